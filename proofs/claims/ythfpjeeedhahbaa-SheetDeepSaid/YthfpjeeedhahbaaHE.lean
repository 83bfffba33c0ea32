/- SheetDeep: the law's body. -/
import Derived.Test.YthfpjeeedhahbaaRD
import Derived.Test.YthfpjeeedhahbaaRE
import Derived.Test.YthfpjeeedhahbaaHX
import Derived.Test.YthfpjeeedhahbaaHY
import Derived.Test.YthfpjeeedhahbaaVF
namespace Go.Proofs.Ythfpjeeedhahbaa
set_option linter.unusedVariables false
set_option linter.unusedSimpArgs false
open Go.RowKit

theorem one_issue {xs : List Iss} (h : layE xs = 0) {x y : Iss} (hx : x ∈ xs) (hy : y ∈ xs) (hd : x.d = y.d) (hl : x.l = y.l) : x = y := by
  obtain ⟨-, h2, -⟩ := layE_ok h
  have hp := (right_lt h2).1
  obtain ⟨i, hi, rfl⟩ := List.getElem_of_mem hx
  obtain ⟨j, hj, rfl⟩ := List.getElem_of_mem hy
  rcases Nat.lt_trichotomy i j with e | e | e
  · have := List.pairwise_iff_getElem.1 hp i j hi hj e
    unfold ltN at this
    omega
  · subst e; rfl
  · have := List.pairwise_iff_getElem.1 hp j i hj hi e
    unfold ltN at this
    omega
/-- What is known of the greatest depth of the items that were seen. -/
structure Most (xs : List Iss) (d k m : Int) (it0 : List (Int × Int)) : Prop where
  bd : 0 ≤ m ∧ m ≤ 6
  is : m = 0 ∨ ∃ x ∈ xs, x.d = d ∧ ∃ it ∈ x.items, m = dpt xs it.1
  all : ∀ l, 1 ≤ l → l < k → ∀ x ∈ xs, x.d = d → x.l = l → ∀ it ∈ x.items, dpt xs it.1 ≤ m
  now : ∀ it ∈ it0, dpt xs it.1 ≤ m
theorem Most.start (xs : List Iss) (d : Int) : Most xs d 1 0 [] := ⟨by omega, .inl rfl, fun l h1 h2 => by omega, fun it h => by cases h⟩
theorem Most.step {xs : List Iss} {d k m : Int} {x : Iss} {j : Nat} (h0 : layE xs = 0) (hx : x ∈ xs ∧ x.d = d ∧ x.l = k) (hj : j < x.items.length) (h : Most xs d k m (x.items.take j)) {m' : Int} (hm : m' = max m (dpt xs (x.items[j]).1)) : Most xs d k m' (x.items.take (j + 1)) := by
  have hit := List.getElem_mem hj
  have hi := dpt_item h0 hx.1 hit
  have hbd := dpt_bd h0 hi.2
  have h1 : m ≤ m' ∧ dpt xs (x.items[j]).1 ≤ m' := by rw [hm]; omega
  refine ⟨by have := h.bd; rw [hm]; omega, ?_, fun l a b y hy e f it hit => Int.le_trans (h.all l a b y hy e f it hit) h1.1, fun it hi => ?_⟩
  · by_cases e : m < dpt xs (x.items[j]).1
    · exact .inr ⟨x, hx.1, hx.2.1, _, hit, by rw [hm]; omega⟩
    · have : m' = m := by rw [hm]; omega
      rw [this]; exact h.is
  · rw [List.take_succ_eq_append_getElem hj, List.mem_append] at hi
    rcases hi with hi | hi
    · exact Int.le_trans (h.now it hi) h1.1
    · rw [List.mem_singleton.1 hi]; exact h1.2
theorem Most.next {xs : List Iss} {d k m : Int} {x : Iss} (h0 : layE xs = 0) (hx : x ∈ xs ∧ x.d = d ∧ x.l = k) (h : Most xs d k m x.items) : Most xs d (k + 1) m [] := by
  refine ⟨h.bd, h.is, fun l a b y hy e f it hit => ?_, fun it hi => by cases hi⟩
  by_cases e2 : l < k
  · exact h.all l a e2 y hy e f it hit
  · have hl : l = k := by omega
    have hxy : y = x := one_issue h0 hy hx.1 (by rw [e, hx.2.1]) (by rw [f, hx.2.2, hl])
    rw [hxy] at hit
    exact h.now it hit
theorem Most.zero {xs : List Iss} {d k m : Int} {l : List (Int × Int)} (h : Most xs d k m []) (hl : l = []) : Most xs d k m l := by rw [hl]; exact h
theorem Most.done {xs : List Iss} {d m k : Int} (h0 : layE xs = 0) (hd : d ∈ numbersL xs) (h : Most xs d k m []) (hk : k = lastOfR d 0 xs + 1) : dpt xs d = m + 1 :=
  dpt_most h0 hd h.bd.1 h.is (fun l a b => h.all l a (by omega))
set_option maxRecDepth 100000 in
set_option maxHeartbeats 16000000 in
theorem deep_ready {A : Option Addr} {c b off : Nat} {xs : List Iss} {vi vd : Nat → Value} {vB : Value} {by_ : List Int} (n : Nat) (w : World) (hn : n ≤ 255) (hm : xs.length ≤ 9223372036854775807) (hm2 : ∀ x ∈ xs, x.items.length ≤ 9223372036854775807 ∧ x.dims.length ≤ 9223372036854775807) (hA : 0 < xs.length → A = some ⟨b, off, none⟩) (hc : IssRow w b off xs vi vd) (hB : ByAt w vB by_) (hbl : by_.length ≤ 9223372036854775807) (hr1 : readyB xs = true) :
    Calls Try.prog 13 #[.agg #[.slice A xs.length c], vB, .int .u8 (n : Int)] w fun e w' => e = .returned (.bool true) ∧ Below w.heap.size w w' := by
  obtain ⟨hg1, h01⟩ := ready_parts hr1
  obtain ⟨hlen, hsml⟩ := great_no hg1
  have hr : RegAt w (.slice A xs.length c) xs := ⟨⟨A, c, b, off, rfl, hA, fun i hi => ⟨vi i, vd i, hc i hi⟩⟩, by omega, fun x hx => ⟨by have := (hsml x hx).1; omega, by have := (hsml x hx).2; omega⟩⟩
  have HQ1 := Lib.hid (fun W (hW : Below w.heap.size w W) => ready_any A c b off xs vi vd W hm hm2 hA (hc.after hW))
  rw [hr1] at HQ1
  have hsm := (layE_ok h01).2.2.1
  have HLT := Lib.hid (fun W (h1 : RegAt W (.slice A xs.length c) xs) (h2 : ByAt W vB by_) => letters_any h1 h2 h01 hbl)
  have HDR := Lib.hid (fun W (h1 : RegAt W (.slice A xs.length c) xs) => drawing_any n hn h1 h01)
  have hls := letters_ok h01 hB.2
  have hlp := letters_len xs by_
  have hd := draw_mem h01 n
  have hlast := last_pos h01 hd
  have hlast8 := last_le h01 hd
  have hdb := dpt_bd h01 hd
  obtain ⟨hf1, hf2⟩ := above_fine h01 hls hd
  have hup : ∀ u ∈ (aboveE xs (lettersF xs by_) (drawF xs n)).1, u ∈ numbersL xs ∧ dpt xs (drawF xs n) < dpt xs u := fun u hu => above_deeper h01 hls hd hu
  obtain ⟨htd, htq⟩ := tree_deep h01 hls hd
  have hul := above_sub (xs := xs) (lettersF xs by_) (drawF xs n)
  have htl := tl_len xs (lettersF xs by_) (drawF xs n)
  have HDU := Lib.hid (fun W y (hy : y ∈ numbersL xs) (h1 : RegAt W (.slice A xs.length c) xs) => depth_s h1 h01 hy)
  have HDD := Lib.hid (fun W (h1 : RegAt W (.slice A xs.length c) xs) => depth_s h1 h01 hd)
  have HLA := Lib.hid (fun W (h1 : RegAt W (.slice A xs.length c) xs) => last_s h1 h01 hd)
  have HAT := Lib.hid (fun W k h1 h2 (h3 : RegAt W (.slice A xs.length c) xs) => at_s (l := k) h3 h01 hd h1 h2)
  have HAN := Lib.hid (fun W k hk (h3 : RegAt W (.slice A xs.length c) xs) => at_none (l := k) h3 h01 hd hk)
  have HST := Lib.hid (fun (k m : Int) (x : Iss) (j : Nat) hx (hj : j < x.items.length) (h : Most xs (drawF xs n) k m (x.items.take j)) m' hm => Most.step h01 hx hj h (m' := m') hm)
  have HNX := Lib.hid (fun (k m : Int) (x : Iss) hx (h : Most xs (drawF xs n) k m x.items) => Most.next h01 hx h)
  have HDN := Lib.hid (fun (k m : Int) (h : Most xs (drawF xs n) k m []) hk => Most.done h01 hd h hk)
  have HIT := Lib.hid (fun (x : Iss) (hx : x ∈ xs) (it : Int × Int) (hit : it ∈ x.items) => (dpt_item h01 hx hit).2)
  have HBD := Lib.hid (fun y (hy : y ∈ numbersL xs) => dpt_bd h01 hy)
  have HIL := Lib.hid (fun (x : Iss) (hx : x ∈ xs) => (hsml x hx).1)
  generalize drawF xs n = d at *
  generalize lettersF xs by_ = ls at *
  generalize lastOfR d 0 xs = L at *
  generalize hD : dpt xs d = D at *
  obtain ⟨up, q0, hae⟩ : ∃ up q, aboveE xs ls d = (up, q) := ⟨_, _, rfl⟩
  rw [hae] at hf1 hf2 hup hul
  simp only at hf1 hf2 hup hul
  subst hf1
  obtain ⟨tl, q, hte⟩ : ∃ a b, treeE xs ls d = (a, b) := ⟨_, _, rfl⟩
  rw [hte] at htd htq htl
  simp only at htd htq htl
  have HAE := Lib.hid hae
  have HTE := Lib.hid hte
  have HNI := Lib.hid (decide_eq_false hf2)
  have HUP := Lib.hid hup
  have HTD := Lib.hid htd
  have HTQ := Lib.hid htq
  have hll : ls.length ≤ 20 := by omega
  have d1 : ¬ D < 1 := by omega
  have d2 : ¬ 6 < D := by omega
  have d3 : ¬ L < 1 := by omega
  have d4 : ¬ 8 < L := by omega
  have k3 : IntKind.i64.wrap (L + 1) = L + 1 := IntWalk.i64_in _ (by omega)
  have LB_0 := Lib.hid (Lies.made w 24 #[.slice A xs.length c])
  have RA_0 := Lib.hid (hr.after ((Below.refl _ w).alloc (Nat.le_refl _) (.cells #[.slice A xs.length c] 24)))
  obtain ⟨AB, cB, rfl⟩ := hB.slice
  have RB_0 := Lib.hid (hB.after ((Below.refl _ w).alloc (Nat.le_refl _) (.cells #[.slice A xs.length c] 24)))
  have hb0 : Below w.heap.size w (w.alloc (.cells #[.slice A xs.length c] 24)) := by (repeat' (first | (with_reducible first | exact Below.refl _ _ | assumption | refine Below.alloc ?_ ?_ _ | refine Below.setCell ?_ ?_ _ | refine below_row ?_ ?_ _ | refine Below.drew ?_ | refine below_drewN ?_ _ | refine Below.trans ?_ (Below.mono (by assumption) ?_)) | exact Nat.le_refl _ | omega | (simp; done) | (simp; omega) | exact Below.size (by assumption)))
  clear hA hc hm2 hm hsml hr hg1 h01 hr1 hB hbl hd hlp hls hD hae hte hf2 hup htd htq
  go_enter Try.func13, Try.ntmps13
  go_wp2_with fail
  refine (alive_any _).mono ?_
  rintro e1 w1 ⟨rfl, hb⟩
  have hq1 : Below (w.alloc (.cells #[.slice A xs.length c] 24)).heap.size (w.alloc (.cells #[.slice A xs.length c] 24)) w1 := by (repeat' (first | (with_reducible first | exact Below.refl _ _ | assumption | refine Below.alloc ?_ ?_ _ | refine Below.setCell ?_ ?_ _ | refine below_row ?_ ?_ _ | refine Below.drew ?_ | refine below_drewN ?_ _ | refine Below.trans ?_ (Below.mono (by assumption) ?_)) | exact Nat.le_refl _ | omega | (simp; done) | (simp; omega) | exact Below.size (by assumption)))
  have LB_1 := Lib.hid (LB_0.out.after hq1)
  clear LB_0
  have RA_1 := Lib.hid (RA_0.out.after hq1)
  clear RA_0
  have RB_1 := Lib.hid (RB_0.out.after hq1)
  clear RB_0
  have hb1 : Below w.heap.size w w1 := hb0.trans (hq1.mono hb0.size)
  clear hb hq1
  have LBc := LB_1.out.cell 0
  have LBz := LB_1.out.lt
  go_wp2_with fail
  refine (HQ1.out _ (by (repeat' (first | (with_reducible first | exact Below.refl _ _ | assumption | refine Below.alloc ?_ ?_ _ | refine Below.setCell ?_ ?_ _ | refine below_row ?_ ?_ _ | refine Below.drew ?_ | refine below_drewN ?_ _ | refine Below.trans ?_ (Below.mono (by assumption) ?_)) | exact Nat.le_refl _ | omega | (simp; done) | (simp; omega) | exact Below.size (by assumption))))).mono ?_
  rintro e2 w2 ⟨rfl, hb⟩
  have hq2 : Below w1.heap.size w1 w2 := by (repeat' (first | (with_reducible first | exact Below.refl _ _ | assumption | refine Below.alloc ?_ ?_ _ | refine Below.setCell ?_ ?_ _ | refine below_row ?_ ?_ _ | refine Below.drew ?_ | refine below_drewN ?_ _ | refine Below.trans ?_ (Below.mono (by assumption) ?_)) | exact Nat.le_refl _ | omega | (simp; done) | (simp; omega) | exact Below.size (by assumption)))
  clear LBc LBz
  have LB_2 := Lib.hid (LB_1.out.after hq2)
  clear LB_1
  have RA_2 := Lib.hid (RA_1.out.after hq2)
  clear RA_1
  have RB_2 := Lib.hid (RB_1.out.after hq2)
  clear RB_1
  have hb2 : Below w.heap.size w w2 := hb1.trans (hq2.mono hb1.size)
  clear hb hq2
  have LBc := LB_2.out.cell 0
  have LBz := LB_2.out.lt
  go_upto_region 4 with fail
  refine wp_region_held_drew (S := fun W => W.cell? ⟨w.heap.size, 0, none⟩ = some (.slice A xs.length c)) (by kernel_rfl) LBc (fun hHeld => ?_)
  refine take_at (i := 0) (v := ?_) rfl (by kernel_rfl) (by kernel_rfl) (by kernel_rfl) (fun _ _ _ h => h) (Or.inl ⟨by rfl, ?_⟩) (by assumption) ?_
  rotate_left
  · (intro w hSw; (try dsimp only at hSw); go_simp; (try with_reducible rfl))
  try simp only [Act.put, List.setIfInBounds_toArray, List.set_cons_zero, List.set_cons_succ]
  refine take_at (i := 1) (v := ?_) rfl (by kernel_rfl) (by kernel_rfl) (by kernel_rfl) (fun _ _ _ h => h) (Or.inl ⟨by rfl, ?_⟩) (by assumption) ?_
  rotate_left
  · (intro w hSw; (try dsimp only at hSw); go_simp; (try with_reducible rfl))
  try simp only [Act.put, List.setIfInBounds_toArray, List.set_cons_zero, List.set_cons_succ]
  refine take_at (i := 3) (v := ?_) rfl (by kernel_rfl) (by kernel_rfl) (by kernel_rfl) (fun _ _ _ h => h) (Or.inl ⟨by rfl, ?_⟩) (by assumption) ?_
  rotate_left
  · (intro w hSw; (try dsimp only at hSw); go_simp; (try with_reducible rfl))
  try simp only [Act.put, List.setIfInBounds_toArray, List.set_cons_zero, List.set_cons_succ]
  refine take_at (i := 4) (v := ?_) rfl (by kernel_rfl) (by kernel_rfl) (by kernel_rfl) (fun _ _ _ h => h) (Or.inl ⟨by rfl, ?_⟩) (by assumption) ?_
  rotate_left
  · (intro w hSw; (try dsimp only at hSw); go_simp; (try with_reducible rfl))
  try simp only [Act.put, List.setIfInBounds_toArray, List.set_cons_zero, List.set_cons_succ]
  refine wpAnyH_ready (rs := [2]) (by kernel_rfl) (by simp) ?_
  refine cons_at rfl (fun K hK => ?_) AllReadyH.nil
  (first | (go_at_call 57; refine (HLT.out _ (RA_2.out.after (by (repeat' (first | (with_reducible first | exact Below.refl _ _ | assumption | refine Below.alloc ?_ ?_ _ | refine Below.setCell ?_ ?_ _ | refine below_row ?_ ?_ _ | refine Below.drew ?_ | refine below_drewN ?_ _ | refine Below.trans ?_ (Below.mono (by assumption) ?_)) | exact Nat.le_refl _ | omega | (simp; done) | (simp; omega) | exact Below.size (by assumption))))) (RB_2.out.after (by (repeat' (first | (with_reducible first | exact Below.refl _ _ | assumption | refine Below.alloc ?_ ?_ _ | refine Below.setCell ?_ ?_ _ | refine below_row ?_ ?_ _ | refine Below.drew ?_ | refine below_drewN ?_ _ | refine Below.trans ?_ (Below.mono (by assumption) ?_)) | exact Nat.le_refl _ | omega | (simp; done) | (simp; omega) | exact Below.size (by assumption)))))).mono ?_; rintro e3 w3 ⟨AL, cL, rfl, hil, ga3⟩; have hv3 : Below w2.heap.size w2 w3 := (by (repeat' (first | (with_reducible first | exact Below.refl _ _ | assumption | refine Below.alloc ?_ ?_ _ | refine Below.setCell ?_ ?_ _ | refine below_row ?_ ?_ _ | refine Below.drew ?_ | refine below_drewN ?_ _ | refine Below.trans ?_ (Below.mono (by assumption) ?_)) | exact Nat.le_refl _ | omega | (simp; done) | (simp; omega) | exact Below.size (by assumption)))); have LB3 := Lib.hid (LB_2.out.after hv3); have x3 := LB3.out.cell 0; have z3 := LB3.out.lt; have HS3 := Lib.hid hil; clear hil) | (go_simp; go_at_call 57; refine (HLT.out _ (RA_2.out.after (by (repeat' (first | (with_reducible first | exact Below.refl _ _ | assumption | refine Below.alloc ?_ ?_ _ | refine Below.setCell ?_ ?_ _ | refine below_row ?_ ?_ _ | refine Below.drew ?_ | refine below_drewN ?_ _ | refine Below.trans ?_ (Below.mono (by assumption) ?_)) | exact Nat.le_refl _ | omega | (simp; done) | (simp; omega) | exact Below.size (by assumption))))) (RB_2.out.after (by (repeat' (first | (with_reducible first | exact Below.refl _ _ | assumption | refine Below.alloc ?_ ?_ _ | refine Below.setCell ?_ ?_ _ | refine below_row ?_ ?_ _ | refine Below.drew ?_ | refine below_drewN ?_ _ | refine Below.trans ?_ (Below.mono (by assumption) ?_)) | exact Nat.le_refl _ | omega | (simp; done) | (simp; omega) | exact Below.size (by assumption)))))).mono ?_; rintro e3 w3 ⟨AL, cL, rfl, hil, ga3⟩; have hv3 : Below w2.heap.size w2 w3 := (by (repeat' (first | (with_reducible first | exact Below.refl _ _ | assumption | refine Below.alloc ?_ ?_ _ | refine Below.setCell ?_ ?_ _ | refine below_row ?_ ?_ _ | refine Below.drew ?_ | refine below_drewN ?_ _ | refine Below.trans ?_ (Below.mono (by assumption) ?_)) | exact Nat.le_refl _ | omega | (simp; done) | (simp; omega) | exact Below.size (by assumption)))); have LB3 := Lib.hid (LB_2.out.after hv3); have x3 := LB3.out.cell 0; have z3 := LB3.out.lt; have HS3 := Lib.hid hil; clear hil))
  refine hK.out _ _ ?_ (fun hHeld => ?_)
  · exact x3
  clear hK K
  try simp only [Act.put, List.setIfInBounds_toArray, List.set_cons_zero, List.set_cons_succ]
  refine wpAnyH_ready (rs := [5]) (by kernel_rfl) (by simp) ?_
  refine cons_at rfl (fun K hK => ?_) AllReadyH.nil
  (first | (go_at_call 58; refine (HDR.out _ (RA_2.out.after hv3)).mono ?_; rintro e4 w4 ⟨rfl, ga4⟩; have hv4 : Below w2.heap.size w2 w4 := (by (repeat' (first | (with_reducible first | exact Below.refl _ _ | assumption | refine Below.alloc ?_ ?_ _ | refine Below.setCell ?_ ?_ _ | refine below_row ?_ ?_ _ | refine Below.drew ?_ | refine below_drewN ?_ _ | refine Below.trans ?_ (Below.mono (by assumption) ?_)) | exact Nat.le_refl _ | omega | (simp; done) | (simp; omega) | exact Below.size (by assumption)))); have LB4 := Lib.hid (LB_2.out.after hv4); have x4 := LB4.out.cell 0; have z4 := LB4.out.lt) | (go_simp; go_at_call 58; refine (HDR.out _ (RA_2.out.after hv3)).mono ?_; rintro e4 w4 ⟨rfl, ga4⟩; have hv4 : Below w2.heap.size w2 w4 := (by (repeat' (first | (with_reducible first | exact Below.refl _ _ | assumption | refine Below.alloc ?_ ?_ _ | refine Below.setCell ?_ ?_ _ | refine below_row ?_ ?_ _ | refine Below.drew ?_ | refine below_drewN ?_ _ | refine Below.trans ?_ (Below.mono (by assumption) ?_)) | exact Nat.le_refl _ | omega | (simp; done) | (simp; omega) | exact Below.size (by assumption)))); have LB4 := Lib.hid (LB_2.out.after hv4); have x4 := LB4.out.cell 0; have z4 := LB4.out.lt))
  refine hK.out _ _ ?_ (fun hHeld => ?_)
  · exact x4
  clear hK K
  try simp only [Act.put, List.setIfInBounds_toArray, List.set_cons_zero, List.set_cons_succ]
  refine take_at (i := 6) (v := ?_) rfl (by kernel_rfl) (by kernel_rfl) (by kernel_rfl) (fun _ _ _ h => h) (Or.inl ⟨by rfl, ?_⟩) (by assumption) ?_
  rotate_left
  · (intro w hSw; (try dsimp only at hSw); go_simp; (try with_reducible rfl))
  try simp only [Act.put, List.setIfInBounds_toArray, List.set_cons_zero, List.set_cons_succ]
  refine take_at (i := 7) (v := ?_) rfl (by kernel_rfl) (by kernel_rfl) (by kernel_rfl) (fun _ _ _ h => h) (Or.inl ⟨by rfl, ?_⟩) (by assumption) ?_
  rotate_left
  · (intro w hSw; (try dsimp only at hSw); go_simp; (try with_reducible rfl))
  try simp only [Act.put, List.setIfInBounds_toArray, List.set_cons_zero, List.set_cons_succ]
  refine wpAnyH_done (by kernel_rfl) ?_ _
  have hq4 : Below w2.heap.size w2 w4 := hv4
  clear LBc LBz
  have LB_4 := Lib.hid (LB_2.out.after hq4)
  clear LB_2
  have RA_4 := Lib.hid (RA_2.out.after hq4)
  clear RA_2
  have RB_4 := Lib.hid (RB_2.out.after hq4)
  clear RB_2
  have HS_4 := Lib.hid (HS3.out.after ga4)
  have hb4 : Below w.heap.size w w4 := hb2.trans (hq4.mono hb2.size)
  clear hv3 hv4 ga3 ga4 LB3 x3 z3 LB4 x4 z4 HS3 hq4
  clear RB_4
  have LBc := LB_4.out.cell 0
  have LBz := LB_4.out.lt
  go_wp2_with fail
  refine (HDD.out _ RA_4.out).mono ?_
  rintro e5 w5 ⟨rfl, hb⟩
  have hq5 : Below w4.heap.size w4 w5 := by (repeat' (first | (with_reducible first | exact Below.refl _ _ | assumption | refine Below.alloc ?_ ?_ _ | refine Below.setCell ?_ ?_ _ | refine below_row ?_ ?_ _ | refine Below.drew ?_ | refine below_drewN ?_ _ | refine Below.trans ?_ (Below.mono (by assumption) ?_)) | exact Nat.le_refl _ | omega | (simp; done) | (simp; omega) | exact Below.size (by assumption)))
  clear LBc LBz
  have LB_5 := Lib.hid (LB_4.out.after hq5)
  clear LB_4
  have RA_5 := Lib.hid (RA_4.out.after hq5)
  clear RA_4
  have HS_5 := Lib.hid (HS_4.out.after hq5)
  clear HS_4
  have hb5 : Below w.heap.size w w5 := hb4.trans (hq5.mono hb4.size)
  clear hb hq5
  have LBc := LB_5.out.cell 0
  have LBz := LB_5.out.lt
  go_wp2_with fail
  refine (HLA.out _ RA_5.out).mono ?_
  rintro e6 w6 ⟨rfl, hb⟩
  have hq6 : Below w5.heap.size w5 w6 := by (repeat' (first | (with_reducible first | exact Below.refl _ _ | assumption | refine Below.alloc ?_ ?_ _ | refine Below.setCell ?_ ?_ _ | refine below_row ?_ ?_ _ | refine Below.drew ?_ | refine below_drewN ?_ _ | refine Below.trans ?_ (Below.mono (by assumption) ?_)) | exact Nat.le_refl _ | omega | (simp; done) | (simp; omega) | exact Below.size (by assumption)))
  clear LBc LBz
  have LB_6 := Lib.hid (LB_5.out.after hq6)
  clear LB_5
  have RA_6 := Lib.hid (RA_5.out.after hq6)
  clear RA_5
  have HS_6 := Lib.hid (HS_5.out.after hq6)
  clear HS_5
  have hb6 : Below w.heap.size w w6 := hb5.trans (hq6.mono hb5.size)
  clear hb hq6
  have LBc := LB_6.out.cell 0
  have LBz := LB_6.out.lt
  go_wp2_with fail
  refine (above_s RA_6.out HS_6.out (by omega) HAE.out).mono ?_
  rintro e7 w7 ⟨A7, c7, rfl, hr, hb⟩
  have hq7 : Below w6.heap.size w6 w7 := by (repeat' (first | (with_reducible first | exact Below.refl _ _ | assumption | refine Below.alloc ?_ ?_ _ | refine Below.setCell ?_ ?_ _ | refine below_row ?_ ?_ _ | refine Below.drew ?_ | refine below_drewN ?_ _ | refine Below.trans ?_ (Below.mono (by assumption) ?_)) | exact Nat.le_refl _ | omega | (simp; done) | (simp; omega) | exact Below.size (by assumption)))
  clear LBc LBz
  have LB_7 := Lib.hid (LB_6.out.after hq7)
  clear LB_6
  have RA_7 := Lib.hid (RA_6.out.after hq7)
  clear RA_6
  have HS_7 := Lib.hid (HS_6.out.after hq7)
  clear HS_6
  have UP_7 := Lib.hid hr
  have hb7 : Below w.heap.size w w7 := hb6.trans (hq7.mono hb6.size)
  clear hr hb hq7
  have hcs := has_any d UP_7.out (by omega)
  rw [HNI.out] at hcs
  go_wp2_with fail
  refine (hcs).mono ?_
  rintro e8 w8 ⟨rfl, hb⟩
  have hq8 : Below w7.heap.size w7 w8 := by (repeat' (first | (with_reducible first | exact Below.refl _ _ | assumption | refine Below.alloc ?_ ?_ _ | refine Below.setCell ?_ ?_ _ | refine below_row ?_ ?_ _ | refine Below.drew ?_ | refine below_drewN ?_ _ | refine Below.trans ?_ (Below.mono (by assumption) ?_)) | exact Nat.le_refl _ | omega | (simp; done) | (simp; omega) | exact Below.size (by assumption)))
  have LB_8 := Lib.hid (LB_7.out.after hq8)
  clear LB_7
  have RA_8 := Lib.hid (RA_7.out.after hq8)
  clear RA_7
  have HS_8 := Lib.hid (HS_7.out.after hq8)
  clear HS_7
  have UP_8 := Lib.hid (UP_7.out.after hq8)
  clear UP_7
  have hb8 : Below w.heap.size w w8 := hb7.trans (hq8.mono hb7.size)
  clear hb hcs hq8
  have HB8 := Lib.hid (fun W (hW : Below w8.heap.size w8 W) => And.intro (RA_8.out.after hW) (LB_8.out.after hW))
  have HS8 := Lib.hid (fun W (hW : Below w8.heap.size w8 W) => HS_8.out.after hW)
  have hq := UP_8.out
  obtain ⟨A', c', bU, oU, eU, hAU, hcU⟩ := hq
  injection eU with e1 e2 e3
  subst e1 e3
  have HAU := Lib.hid hAU
  have HCU := Lib.hid hcU
  clear hAU hcU RA_8 LB_8 HS_8 UP_8
  go_wp2_with fail
  go_loopw [16, 17] (fun m k wr => ∃ (mm kk : Int), m = .int .i64 mm ∧ k = .int .i64 kk ∧ (1 ≤ kk ∧ kk ≤ L + 1) ∧ Hid (Most xs d kk mm []) ∧ Below w8.heap.size w8 wr) (fun _ k _ => (L + 1 - intOf k).toNat)
  case atStart => exact ⟨0, 1, rfl, rfl, by omega, Lib.hid (Most.start xs d), by (repeat' (first | (with_reducible first | exact Below.refl _ _ | assumption | refine Below.alloc ?_ ?_ _ | refine Below.setCell ?_ ?_ _ | refine below_row ?_ ?_ _ | refine Below.drew ?_ | refine below_drewN ?_ _ | refine Below.trans ?_ (Below.mono (by assumption) ?_)) | exact Nat.le_refl _ | omega | (simp; done) | (simp; omega) | exact Below.size (by assumption)))⟩
  case round =>
    obtain ⟨m, k, rfl, rfl, hk, HM, hb⟩ := hrel
    have hal := HB8.out wr hb
    have x0 := hal.2.cell 0
    have z0 := hal.2.lt
    have hmb := HM.out.bd
    by_cases hlt : k ≤ L
    · have hat := HAT.out wr k hk.1 hlt hal.1
      have kk1 : IntKind.i64.wrap (k + 1) = k + 1 := IntWalk.i64_in _ (by omega)
      clear hal
      go_wp2_with fail
      refine hat.mono ?_
      rintro e9 w9 ⟨x, A3, c3, A4, c4, rfl, hi, -, hx, hb9⟩
      have hw9 : Below w8.heap.size w8 w9 := by (repeat' (first | (with_reducible first | exact Below.refl _ _ | assumption | refine Below.alloc ?_ ?_ _ | refine Below.setCell ?_ ?_ _ | refine below_row ?_ ?_ _ | refine Below.drew ?_ | refine below_drewN ?_ _ | refine Below.trans ?_ (Below.mono (by assumption) ?_)) | exact Nat.le_refl _ | omega | (simp; done) | (simp; omega) | exact Below.size (by assumption)))
      clear hat hb9
      have HX := Lib.hid (Lies.made w9 45 #[.int .i64 d, .int .i64 k, .int .u8 x.k, .slice A3 x.items.length c3, .slice A4 x.dims.length c4])
      have y3 := HX.out.cell 3
      have zx := HX.out.lt
      have hil := HIL.out x hx.1
      have HIX := Lib.hid (HIT.out x hx.1)
      have HSX := Lib.hid (fun m j hj h m' hm => HST.out k m x j hx hj h m' hm)
      have HNK := Lib.hid (fun m h => HNX.out k m x hx h)
      obtain ⟨wA, hwA⟩ : ∃ W, W = w9.alloc (.cells #[.int .i64 d, .int .i64 k, .int .u8 x.k, .slice A3 x.items.length c3, .slice A4 x.dims.length c4] 45) := ⟨_, rfl⟩
      have hbA : Below w8.heap.size w8 wA := by rw [hwA]; (repeat' (first | (with_reducible first | exact Below.refl _ _ | assumption | refine Below.alloc ?_ ?_ _ | refine Below.setCell ?_ ?_ _ | refine below_row ?_ ?_ _ | refine Below.drew ?_ | refine below_drewN ?_ _ | refine Below.trans ?_ (Below.mono (by assumption) ?_)) | exact Nat.le_refl _ | omega | (simp; done) | (simp; omega) | exact Below.size (by assumption)))
      have hiA := hi.after (show Below w9.heap.size w9 wA from by rw [hwA]; (repeat' (first | (with_reducible first | exact Below.refl _ _ | assumption | refine Below.alloc ?_ ?_ _ | refine Below.setCell ?_ ?_ _ | refine below_row ?_ ?_ _ | refine Below.drew ?_ | refine below_drewN ?_ _ | refine Below.trans ?_ (Below.mono (by assumption) ?_)) | exact Nat.le_refl _ | omega | (simp; done) | (simp; omega) | exact Below.size (by assumption))))
      obtain ⟨A', c', bI, oI, eI, hAI, hcI⟩ := hiA
      injection eI with e1 e2 e3
      subst e1 e3
      have HAI := Lib.hid hAI
      have HCI := Lib.hid hcI
      have HWA := Lib.hid hwA
      clear hAI hcI hi hwA HX
      generalize x.items = il at *
      go_wp2_with fail
      go_loopw [16, 117] (fun m j ws => ∃ (mm : Int) (jj : Nat), m = .int .i64 mm ∧ j = .int .i64 jj ∧ jj ≤ il.length ∧ Hid (Most xs d k mm (il.take jj)) ∧ Below wA.heap.size wA ws) (fun _ j _ => il.length - (intOf j).toNat)
      case atStart => exact ⟨m, 0, rfl, rfl, by omega, Lib.hid (HM.out.zero (by simp)), by rw [HWA.out]; (repeat' (first | (with_reducible first | exact Below.refl _ _ | assumption | refine Below.alloc ?_ ?_ _ | refine Below.setCell ?_ ?_ _ | refine below_row ?_ ?_ _ | refine Below.drew ?_ | refine below_drewN ?_ _ | refine Below.trans ?_ (Below.mono (by assumption) ?_)) | exact Nat.le_refl _ | omega | (simp; done) | (simp; omega) | exact Below.size (by assumption)))⟩
      case round =>
        obtain ⟨m2, j, rfl, rfl, hj, HM2, hbs⟩ := hrel
        have hw8s : Below w8.heap.size w8 wr := hbA.trans (hbs.mono hbA.size)
        have hal := HB8.out wr hw8s
        have x1 := hal.2.cell 0
        have z1 := hal.2.lt
        have hm2b := HM2.out.bd
        clear hal
        by_cases hjt : j < il.length
        · have kl1 : (j : Int) < (il.length : Int) := by omega
          obtain rfl := HAI.out (by omega)
          have i0 := cell_keep hbs (HCI.out j hjt).1
          have i1 := cell_keep hbs (HCI.out j hjt).2
          have hiz := HIX.out _ (List.getElem_mem hjt)
          have HSJ := Lib.hid (fun m' hm => HSX.out m2 j hjt HM2.out m' hm)
          have HDC := Lib.hid (fun W h1 => HDU.out W _ hiz h1)
          have hdv := HBD.out _ hiz
          clear HM2 hiz
          generalize il[j] = it at *
          obtain ⟨ia, ic⟩ := it
          simp only at i0 i1 HSJ HDC hdv
          generalize dpt xs ia = dv at *
          go_wp2_with fail
          refine (HDC.out _ (HB8.out _ (by (repeat' (first | (with_reducible first | exact Below.refl _ _ | assumption | refine Below.alloc ?_ ?_ _ | refine Below.setCell ?_ ?_ _ | refine below_row ?_ ?_ _ | refine Below.drew ?_ | refine below_drewN ?_ _ | refine Below.trans ?_ (Below.mono (by assumption) ?_)) | exact Nat.le_refl _ | omega | (simp; done) | (simp; omega) | exact Below.size (by assumption))))).1).mono ?_
          rintro e10 w10 ⟨rfl, hb10⟩
          have hss := hbs.size
          have hwt : Below wA.heap.size wA w10 := by (repeat' (first | (with_reducible first | exact Below.refl _ _ | assumption | refine Below.alloc ?_ ?_ _ | refine Below.setCell ?_ ?_ _ | refine below_row ?_ ?_ _ | refine Below.drew ?_ | refine below_drewN ?_ _ | refine Below.trans ?_ (Below.mono (by assumption) ?_)) | exact Nat.le_refl _ | omega | (simp; done) | (simp; omega) | exact Below.size (by assumption)))
          clear hb10
          by_cases hmx : m2 < dv
          · go_wp2_with fail
            go_roundw
            case rel => exact ⟨dv, j + 1, by go_num, by go_num, by omega, Lib.hid (HSJ.out _ (by omega)), hwt⟩
            case measure => simp [intOf]; omega
          · go_wp2_with fail
            go_roundw
            case rel => exact ⟨m2, j + 1, by go_num, by go_num, by omega, Lib.hid (HSJ.out _ (by omega)), hwt⟩
            case measure => simp [intOf]; omega
        · have hje : j = il.length := by omega
          have kl1 : ¬ (j : Int) < (il.length : Int) := by omega
          have HMN : Hid (Most xs d (k + 1) m2 []) := Lib.hid (HNK.out _ (by have := HM2.out; rw [hje, List.take_length] at this; exact this))
          go_wp2_with fail
          go_roundw
          case rel => exact ⟨m2, k + 1, rfl, by go_num, by omega, HMN, hw8s⟩
          case measure => simp [intOf]; omega
    · have hke : k = L + 1 := by omega
      have hDm := HDN.out k m HM.out hke
      subst hke
      subst hDm
      have km1 : IntKind.i64.wrap (m + 1) = m + 1 := IntWalk.i64_in _ (by omega)
      clear hal HAT HST HNX HDN HIT HIL HM
      obtain ⟨wz, rfl⟩ : ∃ z, z = wr := ⟨_, rfl⟩
      have hbz : Below w8.heap.size w8 wz := hb
      go_wp2_with fail
      go_loopw [136] (fun j ws => ∃ jj : Nat, j = .int .i64 jj ∧ jj ≤ up.length ∧ Below w8.heap.size w8 ws) (fun j _ => up.length - (intOf j).toNat)
      case atStart => exact ⟨0, rfl, by omega, by (repeat' (first | (with_reducible first | exact Below.refl _ _ | assumption | refine Below.alloc ?_ ?_ _ | refine Below.setCell ?_ ?_ _ | refine below_row ?_ ?_ _ | refine Below.drew ?_ | refine below_drewN ?_ _ | refine Below.trans ?_ (Below.mono (by assumption) ?_)) | exact Nat.le_refl _ | omega | (simp; done) | (simp; omega) | exact Below.size (by assumption)))⟩
      case round =>
        obtain ⟨j, rfl, hj, hbs⟩ := hrel
        have hal := HB8.out wr hbs
        have x1 := hal.2.cell 0
        have z1 := hal.2.lt
        by_cases hjt : j < up.length
        · have kl1 : (j : Int) < (up.length : Int) := by omega
          obtain rfl := HAU.out (by omega)
          have i0 := cell_keep hbs (HCU.out j hjt)
          obtain ⟨hu1, hu2⟩ := HUP.out _ (List.getElem_mem hjt)
          have HDC := Lib.hid (fun W h1 => HDU.out W _ hu1 h1)
          clear hu1
          generalize up[j] = u at *
          generalize dpt xs u = dv at *
          have hdn : ¬ dv ≤ m + 1 := by omega
          have ral := hal.1
          clear hal
          go_wp2_with fail
          refine (HDC.out _ ral).mono ?_
          rintro e10 w10 ⟨rfl, hb10⟩
          have hwt : Below w8.heap.size w8 w10 := by (repeat' (first | (with_reducible first | exact Below.refl _ _ | assumption | refine Below.alloc ?_ ?_ _ | refine Below.setCell ?_ ?_ _ | refine below_row ?_ ?_ _ | refine Below.drew ?_ | refine below_drewN ?_ _ | refine Below.trans ?_ (Below.mono (by assumption) ?_)) | exact Nat.le_refl _ | omega | (simp; done) | (simp; omega) | exact Below.size (by assumption)))
          clear hb10
          go_wp2_with fail
          go_roundw
          case rel => exact ⟨j + 1, by go_num, by omega, hwt⟩
          case measure => simp [intOf]; omega
        · have hje : j = up.length := by omega
          subst hje
          have ral := hal.1
          have sal := HS8.out wr hbs
          clear hal
          obtain ⟨wy, rfl⟩ : ∃ z, z = wr := ⟨_, rfl⟩
          have hby : Below w8.heap.size w8 wy := hbs
          go_wp2_with fail
          refine (tree_s ral sal (by omega) HTE.out).mono ?_
          rintro e11 w11 ⟨A11, c11, rfl, hit, hb11⟩
          have hw11 : Below w8.heap.size w8 w11 := by (repeat' (first | (with_reducible first | exact Below.refl _ _ | assumption | refine Below.alloc ?_ ?_ _ | refine Below.setCell ?_ ?_ _ | refine below_row ?_ ?_ _ | refine Below.drew ?_ | refine below_drewN ?_ _ | refine Below.trans ?_ (Below.mono (by assumption) ?_)) | exact Nat.le_refl _ | omega | (simp; done) | (simp; omega) | exact Below.size (by assumption)))
          obtain ⟨A', c', bT, oT, eT, hAT, hcT⟩ := hit
          injection eT with e1 e2 e3
          subst e1 e3
          have HATR := Lib.hid hAT
          have HCTR := Lib.hid hcT
          clear hAT hcT hb11 ral sal x1 z1
          go_wp2_with fail
          go_loopw [163] (fun j ws => ∃ jj : Nat, j = .int .i64 jj ∧ jj ≤ tl.length ∧ Below w11.heap.size w11 ws) (fun j _ => tl.length - (intOf j).toNat)
          case atStart => exact ⟨0, rfl, by omega, by (repeat' (first | (with_reducible first | exact Below.refl _ _ | assumption | refine Below.alloc ?_ ?_ _ | refine Below.setCell ?_ ?_ _ | refine below_row ?_ ?_ _ | refine Below.drew ?_ | refine below_drewN ?_ _ | refine Below.trans ?_ (Below.mono (by assumption) ?_)) | exact Nat.le_refl _ | omega | (simp; done) | (simp; omega) | exact Below.size (by assumption)))⟩
          case round =>
            obtain ⟨j, rfl, hj, hbs⟩ := hrel
            have hw8s : Below w8.heap.size w8 wr := hw11.trans (hbs.mono hw11.size)
            by_cases hjt : j < tl.length
            · have kl1 : (j : Int) < (tl.length : Int) := by omega
              obtain rfl := HATR.out (by omega)
              obtain ⟨q0, q1, q2, q3⟩ := HCTR.out j hjt
              have i0 := cell_keep hbs q0
              have i1 := cell_keep hbs q1
              have i2 := cell_keep hbs q2
              have i3 := cell_keep hbs q3
              have hdn := HTD.out _ (List.getElem_mem hjt)
              clear q0 q1 q2 q3
              generalize tl[j] = bb at *
              obtain ⟨ba, bb2, bc, bd⟩ := bb
              simp only at i0 i1 i2 i3 hdn
              have hdn2 : ¬ m + 1 ≤ ba := by omega
              go_wp2_with fail
              go_roundw
              case rel => exact ⟨j + 1, by go_num, by omega, by (repeat' (first | (with_reducible first | exact Below.refl _ _ | assumption | refine Below.alloc ?_ ?_ _ | refine Below.setCell ?_ ?_ _ | refine below_row ?_ ?_ _ | refine Below.drew ?_ | refine below_drewN ?_ _ | refine Below.trans ?_ (Below.mono (by assumption) ?_)) | exact Nat.le_refl _ | omega | (simp; done) | (simp; omega) | exact Below.size (by assumption)))⟩
              case measure => simp [intOf]; omega
            · have hje : j = tl.length := by omega
              subst hje
              have hal := HB8.out wr hw8s
              have x2 := hal.2.cell 0
              have z2 := hal.2.lt
              have hat := HAN.out wr (L + 1) rfl hal.1
              clear hal
              obtain ⟨wy2, rfl⟩ : ∃ z, z = wr := ⟨_, rfl⟩
              go_wp2_with fail
              refine hat.mono ?_
              rintro e12 w12 ⟨a5, b5, k5, A5, n5, c5, A6, n6, c6, rfl, hb12⟩
              have hw12 : Below w8.heap.size w8 w12 := by (repeat' (first | (with_reducible first | exact Below.refl _ _ | assumption | refine Below.alloc ?_ ?_ _ | refine Below.setCell ?_ ?_ _ | refine below_row ?_ ?_ _ | refine Below.drew ?_ | refine below_drewN ?_ _ | refine Below.trans ?_ (Below.mono (by assumption) ?_)) | exact Nat.le_refl _ | omega | (simp; done) | (simp; omega) | exact Below.size (by assumption)))
              have hq := HTQ.out
              clear HTQ hb12
              rcases hq with rfl | rfl
              all_goals
                go_wp2_with fail
                go_ret
                exact ⟨rfl, hb8.trans (Below.mono (show Below w8.heap.size w8 _ from by (repeat' (first | (with_reducible first | exact Below.refl _ _ | assumption | refine Below.alloc ?_ ?_ _ | refine Below.setCell ?_ ?_ _ | refine below_row ?_ ?_ _ | refine Below.drew ?_ | refine below_drewN ?_ _ | refine Below.trans ?_ (Below.mono (by assumption) ?_)) | exact Nat.le_refl _ | omega | (simp; done) | (simp; omega) | exact Below.size (by assumption)))) hb8.size)⟩
end Go.Proofs.Ythfpjeeedhahbaa
