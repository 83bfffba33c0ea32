/- SheetTurned: the law's body. -/
import Derived.Test.YthfpjeeedhahbaaRD
import Derived.Test.YthfpjeeedhahbaaRE
import Derived.Test.YthfpjeeedhahbaaHX
import Derived.Test.YthfpjeeedhahbaaHT
import Derived.Test.YthfpjeeedhahbaaHY
import Derived.Test.YthfpjeeedhahbaaHV
namespace Go.Proofs.Ythfpjeeedhahbaa
set_option linter.unusedVariables false
set_option linter.unusedSimpArgs false
open Go.RowKit

section
variable {md : Region.Mode} {l : List Oper} {Q : Exit → Act → World → Prop} {S : World → Prop} {fuel : Nat} {listed : Array Bool} {a : Act} {w : World}
theorem take_q {i : Nat} {o : Oper} {rest : List Oper} {v : Value} (hy : ∀ w, S w → (execOp a.eval o).run Try.prog w = .ok (.value v) w) (hk : wpAnyH Try.prog md l.toArray Q S fuel (listed.setIfInBounds i true) (a.put o.dst v) w) (h : l.drop i = o :: rest := by rfl) (hs : Region.noSelect l.toArray = true := by kernel_rfl) (hf : Region.free md l.toArray listed i = true := by kernel_rfl) (hr : (Region.ready md l.toArray listed).contains i = true := by kernel_rfl)
  (hQ : ∀ c a w, Q (.panic c) (a.put o.dst v) w → Q (.panic c) a w := by exact fun _ _ _ h => h) (hw : Region.wanted o (yielded l.toArray a.tmps) = true := by rfl) (hS : S w := by assumption) : wpAnyH Try.prog md l.toArray Q S (fuel + 1) listed a w :=
 take_at h hs hf hr hQ (Or.inl ⟨hw, hy⟩) hS hk
end
theorem differ_s {vI : Value} {xs : List Iss} {d f t : Int} {c : List D3} {l : List Int} {w : World} (h : RegAt w vI xs) (he : differE xs d f t = (c, l, 0)) :
  Calls Try.prog 43 #[.agg #[vI], .int .i64 d, .int .i64 f, .int .i64 t] w fun e w' => ∃ A k B m, e = .returned (.tuple #[.slice A c.length k, .slice B l.length m, .int .i64 0]) ∧ ChangesAt w' (.slice A c.length k) c ∧ IntsAt w' (.slice B l.length m) l ∧ Below w.heap.size w w' := by
 have h2 := sDiffer_any d f t h
 rw [he] at h2
 refine h2.mono ?_
 rintro e w' ⟨v, u, rfl, hi, hj, hb⟩
 obtain ⟨A, k, rfl⟩ := hi.slice
 obtain ⟨B, m, rfl⟩ := hj.slice
 exact ⟨A, k, B, m, rfl, hi, hj, hb⟩
theorem CMap.drewN {w : World} {b n : Nat} {zs : List Int} {S : Int → Int} (h : CMap w b n zs S) (k : Nat) : CMap (w.drewN k) b n zs S := h
theorem lies_turned2 {w w1 : World} {g b n : Nat} {ty : TypeId} {cs : Array Value} {zs : List Int} {S : Int → Int} (h : Lies w g ty cs) (hm : CMap w b n zs S) (ht : w.mapTurned w1 b) : Lies w1 g ty cs := h.turned1 ht ((KMap.imap hm).ne h)
theorem look_drewN {w : World} {b n : Nat} {zs : List Int} {S : Int → Int} (h : CMap w b n zs S) {x : Int} (hx : NIn x) : ∀ k : Nat, (Instr.lookup 100 (.map (some b)) (.int .i64 x) false).run Try.prog (w.drewN k) = .ok (.int .i64 (S x)) (w.drewN k) := fun k => (KMap.imap (h.drewN k)).look hx
set_option maxRecDepth 100000 in
set_option maxHeartbeats 16000000 in
theorem turned_ready {A : Option Addr} {c b off : Nat} {xs : List Iss} {vi vd : Nat → Value} (n o k : Nat) (w : World) (hn : n ≤ 255) (ho : o ≤ 255) (hk : k ≤ 255) (hm : xs.length ≤ 9223372036854775807) (hm2 : ∀ x ∈ xs, x.items.length ≤ 9223372036854775807 ∧ x.dims.length ≤ 9223372036854775807) (hA : 0 < xs.length → A = some ⟨b, off, none⟩) (hc : IssRow w b off xs vi vd) (hr1 : readyB xs = true) :
  Calls Try.prog 14 #[.agg #[.slice A xs.length c], .int .u8 (n : Int), .int .u8 (o : Int), .int .u8 (k : Int)] w fun e w' => e = .returned (.bool true) ∧ Below w.heap.size w w' := by
 obtain ⟨hg1, h01⟩ := ready_parts hr1
 obtain ⟨hlen, hsml⟩ := great_no hg1
 have hr : RegAt w (.slice A xs.length c) xs := ⟨⟨A, c, b, off, rfl, hA, fun i hi => ⟨vi i, vd i, hc i hi⟩⟩, by omega, fun x hx => ⟨by have := (hsml x hx).1; omega, by have := (hsml x hx).2; omega⟩⟩
 have HQ1 := Lib.hid (fun W (hW : Below w.heap.size w W) => ready_any A c b off xs vi vd W hm hm2 hA (hc.after hW))
 rw [hr1] at HQ1
 have hsm := (layE_ok h01).2.2.1
 have hps := numbers_strict (layE_ok h01).2.1
 have HDR := Lib.hid (fun W (h1 : RegAt W (.slice A xs.length c) xs) => drawing_any n hn h1 h01)
 have HLO := Lib.hid (fun W (h1 : RegAt W (.slice A xs.length c) xs) => rLastOf_v (drawF xs n) h1)
 have hd := draw_mem h01 n
 have hlast := last_pos h01 hd
 have hto : ∀ j : Nat, 1 ≤ 1 + (j : Int) % lastOfR (drawF xs n) 0 xs ∧ 1 + (j : Int) % lastOfR (drawF xs n) 0 xs ≤ lastOfR (drawF xs n) 0 xs ∧ (j : Int) % lastOfR (drawF xs n) 0 xs ≤ j := fun j => by
  have h3 : 0 ≤ (j : Int) % lastOfR (drawF xs n) 0 xs := Int.emod_nonneg _ (by omega)
  have h4 : (j : Int) % lastOfR (drawF xs n) 0 xs < lastOfR (drawF xs n) 0 xs := Int.emod_lt_of_pos _ (by omega)
  have h5 := emod_le (c := (j : Int)) (L := lastOfR (drawF xs n) 0 xs) (by omega) (by omega)
  omega
 have HA1 := Lib.hid (fun W (h1 : RegAt W (.slice A xs.length c) xs) => at_s h1 h01 hd (hto o).1 (hto o).2.1)
 have HA2 := Lib.hid (fun W (h1 : RegAt W (.slice A xs.length c) xs) => at_s h1 h01 hd (hto k).1 (hto k).2.1)
 have HDF := Lib.hid (fun (x y : Iss) (hx : x ∈ xs) (hy : y ∈ xs) (e : y.d = x.d) => differ_ok h01 hx hy e)
 have HRI := Lib.hid (fun (x : Iss) (hx : x ∈ xs) => right_items (layE_ok h01).2.1 (layE_ok h01).2.2.2.1 hx)
 have HDL := Lib.hid (fun (x : Iss) (hx : x ∈ xs) => (hsml x hx).2)
 have HNB := Lib.hid (fun z (hz : z ∈ numbersL xs) => numbers_in (layE_ok h01).2.1 z hz)
 have HPS := Lib.hid hps
 have ho1 := (hto o).2.2
 have hk1 := (hto k).2.2
 have hmo := (hto o).1
 have hmk := (hto k).1
 generalize drawF xs n = d at *
 generalize lastOfR d 0 xs = L at *
 have k0 : IntKind.i64.wrap (o : Int) = (o : Int) := IntWalk.i64_in _ (by omega)
 have k00 : IntKind.i64.wrap (k : Int) = (k : Int) := IntWalk.i64_in _ (by omega)
 rw [← Int.tmod_eq_emod_of_nonneg (b := L) (show (0 : Int) ≤ (o : Int) by omega)] at ho1 hmo
 rw [← Int.tmod_eq_emod_of_nonneg (b := L) (show (0 : Int) ≤ (k : Int) by omega)] at hk1 hmk
 have k1 : IntKind.i64.wrap ((o : Int).tmod L) = (o : Int).tmod L := IntWalk.i64_in _ (by omega)
 have k2 : IntKind.i64.wrap (1 + (o : Int).tmod L) = 1 + (o : Int).tmod L := IntWalk.i64_in _ (by omega)
 have k3 : IntKind.i64.wrap ((k : Int).tmod L) = (k : Int).tmod L := IntWalk.i64_in _ (by omega)
 have k4 : IntKind.i64.wrap (1 + (k : Int).tmod L) = 1 + (k : Int).tmod L := IntWalk.i64_in _ (by omega)
 have hz2 : (L == 0) = false := by rw [beq_eq_false_iff_ne]; omega
 have hz3 : ¬ L = 0 := by omega
 have LB_0 := Lib.hid (Lies.made w 24 #[.slice A xs.length c])
 have RA_0 := Lib.hid (hr.after ((Below.refl _ w).alloc (Nat.le_refl _) (.cells #[.slice A xs.length c] 24)))
 have hb0 : Below w.heap.size w (w.alloc (.cells #[.slice A xs.length c] 24)) := by (repeat' (first | (with_reducible first | exact Below.refl _ _ | assumption | refine Below.alloc ?_ ?_ _ | refine Below.setCell ?_ ?_ _ | refine below_row ?_ ?_ _ | refine Below.drew ?_ | refine below_drewN ?_ _ | refine Below.trans ?_ (Below.mono (by assumption) ?_)) | exact Nat.le_refl _ | omega | (simp; done) | (simp; omega) | exact Below.size (by assumption)))
 clear hA hc hm2 hm hsml hr hg1 h01 hr1 hd hto hps
 go_enter Try.func14, Try.ntmps14
 go_wp2_with fail
 refine (alive_any _).mono ?_
 rintro e1 w1 ⟨rfl, hb⟩
 have hq1 : Below (w.alloc (.cells #[.slice A xs.length c] 24)).heap.size (w.alloc (.cells #[.slice A xs.length c] 24)) w1 := by (repeat' (first | (with_reducible first | exact Below.refl _ _ | assumption | refine Below.alloc ?_ ?_ _ | refine Below.setCell ?_ ?_ _ | refine below_row ?_ ?_ _ | refine Below.drew ?_ | refine below_drewN ?_ _ | refine Below.trans ?_ (Below.mono (by assumption) ?_)) | exact Nat.le_refl _ | omega | (simp; done) | (simp; omega) | exact Below.size (by assumption)))
 have LB_1 := Lib.hid (LB_0.out.after hq1)
 clear LB_0
 have RA_1 := Lib.hid (RA_0.out.after hq1)
 clear RA_0
 have hb1 : Below w.heap.size w w1 := hb0.trans (hq1.mono hb0.size)
 clear hb hq1
 have LBc := LB_1.out.cell 0
 have LBz := LB_1.out.lt
 go_wp2_with fail
 refine (HQ1.out _ (by (repeat' (first | (with_reducible first | exact Below.refl _ _ | assumption | refine Below.alloc ?_ ?_ _ | refine Below.setCell ?_ ?_ _ | refine below_row ?_ ?_ _ | refine Below.drew ?_ | refine below_drewN ?_ _ | refine Below.trans ?_ (Below.mono (by assumption) ?_)) | exact Nat.le_refl _ | omega | (simp; done) | (simp; omega) | exact Below.size (by assumption))))).mono ?_
 rintro e2 w2 ⟨rfl, hb⟩
 have hq2 : Below w1.heap.size w1 w2 := by (repeat' (first | (with_reducible first | exact Below.refl _ _ | assumption | refine Below.alloc ?_ ?_ _ | refine Below.setCell ?_ ?_ _ | refine below_row ?_ ?_ _ | refine Below.drew ?_ | refine below_drewN ?_ _ | refine Below.trans ?_ (Below.mono (by assumption) ?_)) | exact Nat.le_refl _ | omega | (simp; done) | (simp; omega) | exact Below.size (by assumption)))
 clear LBc LBz
 have LB_2 := Lib.hid (LB_1.out.after hq2)
 clear LB_1
 have RA_2 := Lib.hid (RA_1.out.after hq2)
 clear RA_1
 have hb2 : Below w.heap.size w w2 := hb1.trans (hq2.mono hb1.size)
 clear hb hq2
 have LBc := LB_2.out.cell 0
 have LBz := LB_2.out.lt
 go_wp2_with fail
 refine (HDR.out _ RA_2.out).mono ?_
 rintro e3 w3 ⟨rfl, hb⟩
 have hq3 : Below w2.heap.size w2 w3 := by (repeat' (first | (with_reducible first | exact Below.refl _ _ | assumption | refine Below.alloc ?_ ?_ _ | refine Below.setCell ?_ ?_ _ | refine below_row ?_ ?_ _ | refine Below.drew ?_ | refine below_drewN ?_ _ | refine Below.trans ?_ (Below.mono (by assumption) ?_)) | exact Nat.le_refl _ | omega | (simp; done) | (simp; omega) | exact Below.size (by assumption)))
 clear LBc LBz
 have LB_3 := Lib.hid (LB_2.out.after hq3)
 clear LB_2
 have RA_3 := Lib.hid (RA_2.out.after hq3)
 clear RA_2
 have hb3 : Below w.heap.size w w3 := hb2.trans (hq3.mono hb2.size)
 clear hb hq3
 have LBc := LB_3.out.cell 0
 have LBz := LB_3.out.lt
 go_upto_region 5 with fail
 refine wp_region_held_drew (S := fun W => W.cell? ⟨w.heap.size, 0, none⟩ = some (.slice A xs.length c)) (by kernel_rfl) LBc (fun hHeld => ?_)
 refine take_at (i := 0) (v := ?_) rfl (by kernel_rfl) (by kernel_rfl) (by kernel_rfl) (fun _ _ _ h => h) (Or.inl ⟨by rfl, ?_⟩) (by assumption) ?_
 rotate_left
 ·(intro w hSw; (try dsimp only at hSw); go_simp; (try with_reducible rfl))
 try simp only [Act.put, List.setIfInBounds_toArray, List.set_cons_zero, List.set_cons_succ]
 refine take_at (i := 1) (v := ?_) rfl (by kernel_rfl) (by kernel_rfl) (by kernel_rfl) (fun _ _ _ h => h) (Or.inl ⟨by rfl, ?_⟩) (by assumption) ?_
 rotate_left
 ·(intro w hSw; (try dsimp only at hSw); go_simp; (try with_reducible rfl))
 try simp only [Act.put, List.setIfInBounds_toArray, List.set_cons_zero, List.set_cons_succ]
 refine take_at (i := 2) (v := ?_) rfl (by kernel_rfl) (by kernel_rfl) (by kernel_rfl) (fun _ _ _ h => h) (Or.inl ⟨by rfl, ?_⟩) (by assumption) ?_
 rotate_left
 ·(intro w hSw; (try dsimp only at hSw); go_simp; (try with_reducible rfl))
 try simp only [Act.put, List.setIfInBounds_toArray, List.set_cons_zero, List.set_cons_succ]
 refine take_at (i := 3) (v := ?_) rfl (by kernel_rfl) (by kernel_rfl) (by kernel_rfl) (fun _ _ _ h => h) (Or.inl ⟨by rfl, ?_⟩) (by assumption) ?_
 rotate_left
 ·(intro w hSw; (try dsimp only at hSw); go_simp; (try with_reducible rfl))
 try simp only [Act.put, List.setIfInBounds_toArray, List.set_cons_zero, List.set_cons_succ]
 refine take_at (i := 7) (v := ?_) rfl (by kernel_rfl) (by kernel_rfl) (by kernel_rfl) (fun _ _ _ h => h) (Or.inl ⟨by rfl, ?_⟩) (by assumption) ?_
 rotate_left
 ·(intro w hSw; (try dsimp only at hSw); go_simp; (try with_reducible rfl))
 try simp only [Act.put, List.setIfInBounds_toArray, List.set_cons_zero, List.set_cons_succ]
 refine take_at (i := 8) (v := ?_) rfl (by kernel_rfl) (by kernel_rfl) (by kernel_rfl) (fun _ _ _ h => h) (Or.inl ⟨by rfl, ?_⟩) (by assumption) ?_
 rotate_left
 ·(intro w hSw; (try dsimp only at hSw); go_simp; (try with_reducible rfl))
 try simp only [Act.put, List.setIfInBounds_toArray, List.set_cons_zero, List.set_cons_succ]
 refine take_at (i := 9) (v := ?_) rfl (by kernel_rfl) (by kernel_rfl) (by kernel_rfl) (fun _ _ _ h => h) (Or.inl ⟨by rfl, ?_⟩) (by assumption) ?_
 rotate_left
 ·(intro w hSw; (try dsimp only at hSw); go_simp; (try with_reducible rfl))
 try simp only [Act.put, List.setIfInBounds_toArray, List.set_cons_zero, List.set_cons_succ]
 refine take_at (i := 10) (v := ?_) rfl (by kernel_rfl) (by kernel_rfl) (by kernel_rfl) (fun _ _ _ h => h) (Or.inl ⟨by rfl, ?_⟩) (by assumption) ?_
 rotate_left
 ·(intro w hSw; (try dsimp only at hSw); go_simp; (try with_reducible rfl))
 try simp only [Act.put, List.setIfInBounds_toArray, List.set_cons_zero, List.set_cons_succ]
 refine wpAnyH_ready (rs := [4]) (by kernel_rfl) (by simp) ?_
 refine cons_at rfl (fun K hK => ?_) AllReadyH.nil
 (first | (go_at_call 62; refine (HLO.out _ (RA_3.out.after (Below.refl _ w3).drew)).mono ?_; rintro e4 w4 ⟨rfl, ga4⟩; have hv4 : Below w3.heap.size w3 w4 := (Below.refl _ w3).drew.trans ga4; have LB4 := Lib.hid (LB_3.out.after hv4); have x4 := LB4.out.cell 0; have z4 := LB4.out.lt) | (go_simp; go_at_call 62; refine (HLO.out _ (RA_3.out.after (Below.refl _ w3).drew)).mono ?_; rintro e4 w4 ⟨rfl, ga4⟩; have hv4 : Below w3.heap.size w3 w4 := (Below.refl _ w3).drew.trans ga4; have LB4 := Lib.hid (LB_3.out.after hv4); have x4 := LB4.out.cell 0; have z4 := LB4.out.lt))
 refine hK.out _ _ ?_ (fun hHeld => ?_)
 ·exact x4
 clear hK K
 try simp only [Act.put, List.setIfInBounds_toArray, List.set_cons_zero, List.set_cons_succ]
 refine take_at (i := 5) (v := ?_) rfl (by kernel_rfl) (by kernel_rfl) (by kernel_rfl) (fun _ _ _ h => h) (Or.inl ⟨by rfl, ?_⟩) (by assumption) ?_
 rotate_left
 ·(intro w hSw; (try dsimp only at hSw); go_simp; (try with_reducible rfl))
 try simp only [Act.put, List.setIfInBounds_toArray, List.set_cons_zero, List.set_cons_succ]
 refine take_at (i := 6) (v := ?_) rfl (by kernel_rfl) (by kernel_rfl) (by kernel_rfl) (fun _ _ _ h => h) (Or.inl ⟨by rfl, ?_⟩) (by assumption) ?_
 rotate_left
 ·(intro w hSw; (try dsimp only at hSw); go_simp; (try with_reducible rfl))
 try simp only [Act.put, List.setIfInBounds_toArray, List.set_cons_zero, List.set_cons_succ]
 refine wpAnyH_ready (rs := [11]) (by kernel_rfl) (by simp) ?_
 refine cons_at rfl (fun K hK => ?_) AllReadyH.nil
 (first | (go_at_call 62; refine (HLO.out _ (RA_3.out.after hv4)).mono ?_; rintro e5 w5 ⟨rfl, ga5⟩; have hv5 : Below w3.heap.size w3 w5 := hv4.trans (ga5.mono hv4.size); have LB5 := Lib.hid (LB_3.out.after hv5); have x5 := LB5.out.cell 0; have z5 := LB5.out.lt) | (go_simp; go_at_call 62; refine (HLO.out _ (RA_3.out.after hv4)).mono ?_; rintro e5 w5 ⟨rfl, ga5⟩; have hv5 : Below w3.heap.size w3 w5 := hv4.trans (ga5.mono hv4.size); have LB5 := Lib.hid (LB_3.out.after hv5); have x5 := LB5.out.cell 0; have z5 := LB5.out.lt))
 refine hK.out _ _ ?_ (fun hHeld => ?_)
 ·exact x5
 clear hK K
 try simp only [Act.put, List.setIfInBounds_toArray, List.set_cons_zero, List.set_cons_succ]
 refine take_at (i := 12) (v := ?_) rfl (by kernel_rfl) (by kernel_rfl) (by kernel_rfl) (fun _ _ _ h => h) (Or.inl ⟨by rfl, ?_⟩) (by assumption) ?_
 rotate_left
 ·(intro w hSw; (try dsimp only at hSw); go_simp; (try with_reducible rfl))
 try simp only [Act.put, List.setIfInBounds_toArray, List.set_cons_zero, List.set_cons_succ]
 refine take_at (i := 13) (v := ?_) rfl (by kernel_rfl) (by kernel_rfl) (by kernel_rfl) (fun _ _ _ h => h) (Or.inl ⟨by rfl, ?_⟩) (by assumption) ?_
 rotate_left
 ·(intro w hSw; (try dsimp only at hSw); go_simp; (try with_reducible rfl))
 try simp only [Act.put, List.setIfInBounds_toArray, List.set_cons_zero, List.set_cons_succ]
 refine take_at (i := 14) (v := ?_) rfl (by kernel_rfl) (by kernel_rfl) (by kernel_rfl) (fun _ _ _ h => h) (Or.inl ⟨by rfl, ?_⟩) (by assumption) ?_
 rotate_left
 ·(intro w hSw; (try dsimp only at hSw); go_simp; (try with_reducible rfl))
 try simp only [Act.put, List.setIfInBounds_toArray, List.set_cons_zero, List.set_cons_succ]
 refine take_at (i := 15) (v := ?_) rfl (by kernel_rfl) (by kernel_rfl) (by kernel_rfl) (fun _ _ _ h => h) (Or.inl ⟨by rfl, ?_⟩) (by assumption) ?_
 rotate_left
 ·(intro w hSw; (try dsimp only at hSw); go_simp; (try with_reducible rfl))
 try simp only [Act.put, List.setIfInBounds_toArray, List.set_cons_zero, List.set_cons_succ]
 refine wpAnyH_done (by kernel_rfl) ?_ _
 have hq5 : Below w3.heap.size w3 w5 := hv5
 clear LBc LBz
 have LB_5 := Lib.hid (LB_3.out.after hq5)
 clear LB_3
 have RA_5 := Lib.hid (RA_3.out.after hq5)
 clear RA_3
 have hb5 : Below w.heap.size w w5 := hb3.trans (hq5.mono hb3.size)
 clear hv4 ga4 ga5 hv5 LB4 x4 z4 LB5 x5 z5 hq5
 have LBc := LB_5.out.cell 0
 have LBz := LB_5.out.lt
 go_wp2_with fail
 refine (HA1.out _ RA_5.out).mono ?_
 rintro e6 w6 ⟨x, A6, c6, B6, d6, rfl, hi, hj, hx, hb⟩
 have hq6 : Below w5.heap.size w5 w6 := by (repeat' (first | (with_reducible first | exact Below.refl _ _ | assumption | refine Below.alloc ?_ ?_ _ | refine Below.setCell ?_ ?_ _ | refine below_row ?_ ?_ _ | refine Below.drew ?_ | refine below_drewN ?_ _ | refine Below.trans ?_ (Below.mono (by assumption) ?_)) | exact Nat.le_refl _ | omega | (simp; done) | (simp; omega) | exact Below.size (by assumption)))
 clear LBc LBz
 have LB_6 := Lib.hid (LB_5.out.after hq6)
 clear LB_5
 have RA_6 := Lib.hid (RA_5.out.after hq6)
 clear RA_5
 have IX_6 := Lib.hid hi
 have DX_6 := Lib.hid hj
 have hb6 : Below w.heap.size w w6 := hb5.trans (hq6.mono hb5.size)
 clear hi hj hb hq6
 have LBc := LB_6.out.cell 0
 have LBz := LB_6.out.lt
 clear LBc LBz
 have LBc := LB_6.out.cell 0
 have LBz := LB_6.out.lt
 go_wp2_with fail
 refine (HA2.out _ (RA_6.out.after ((Below.refl _ w6).alloc (Nat.le_refl _) (.cells #[.int .i64 d, .int .i64 (1 + (o : Int) % L), .int .u8 x.k, .slice A6 x.items.length c6, .slice B6 x.dims.length d6] 45)))).mono ?_
 rintro e7 w7 ⟨y, A7, c7, B7, d7, rfl, hi, hj, hy, hb⟩
 have hq7 : Below w6.heap.size w6 w7 := by (repeat' (first | (with_reducible first | exact Below.refl _ _ | assumption | refine Below.alloc ?_ ?_ _ | refine Below.setCell ?_ ?_ _ | refine below_row ?_ ?_ _ | refine Below.drew ?_ | refine below_drewN ?_ _ | refine Below.trans ?_ (Below.mono (by assumption) ?_)) | exact Nat.le_refl _ | omega | (simp; done) | (simp; omega) | exact Below.size (by assumption)))
 clear LBc LBz
 have LB_7 := Lib.hid (LB_6.out.after hq7)
 clear LB_6
 have RA_7 := Lib.hid (RA_6.out.after hq7)
 clear RA_6
 have IX_7 := Lib.hid (IX_6.out.after hq7)
 clear IX_6
 have DX_7 := Lib.hid (DX_6.out.after hq7)
 clear DX_6
 have LX_7 := Lib.hid ((Lies.made w6 45 #[.int .i64 d, .int .i64 (1 + (o : Int) % L), .int .u8 x.k, .slice A6 x.items.length c6, .slice B6 x.dims.length d6]).after hb)
 have IY_7 := Lib.hid hi
 have DY_7 := Lib.hid hj
 have hb7 : Below w.heap.size w w7 := hb6.trans (hq7.mono hb6.size)
 clear hi hj hq7
 clear hb
 have hde := HDF.out x y hx.1 hy.1 (by rw [hx.2.1, hy.2.1])
 have hdf := HDF.out y x hy.1 hx.1 (by rw [hx.2.1, hy.2.1])
 rw [hx.2.1, hx.2.2, hy.2.2] at hde
 rw [hy.2.1, hx.2.2, hy.2.2] at hdf
 rw [changes_comm (numbersL xs) (countI x.items) (countI y.items), diff_comm x.dims y.dims] at hdf
 obtain ⟨hil, hip, hiz⟩ := HRI.out x hx.1
 obtain ⟨hjl, hjp, hjz⟩ := HRI.out y hy.1
 have hxd := HDL.out x hx.1
 have hyd := HDL.out y hy.1
 have HDE := Lib.hid hde
 have HDB := Lib.hid hdf
 have HIP := Lib.hid hip
 have HJP := Lib.hid hjp
 have HIZ := Lib.hid hiz
 have HJZ := Lib.hid hjz
 have hcl : (changesL (numbersL xs) (countI x.items) (countI y.items)).length ≤ 20 := by
  unfold changesL
  rw [List.length_map]
  exact Nat.le_trans (List.length_filter_le _ _) hsm
 have hll := diffJ_lt x.dims y.dims
 have HSO := Lib.hid (changes_sorted HPS.out (countI x.items) (countI y.items))
 have HCM := Lib.hid (fun z => changes_mem (zs := numbersL xs) (ca := countI x.items) (cb := countI y.items) (z := z))
 have HTA := Lib.hid (fun i hi => turn_at (zs := numbersL xs) (ca := countI x.items) (cb := countI y.items) HPS.out (i := i) hi)
 have HTN := Lib.hid (fun i hi => turn_next (zs := numbersL xs) (ca := countI x.items) (cb := countI y.items) (i := i) hi)
 have HTE := Lib.hid (turn_end (zs := numbersL xs) (ca := countI x.items) (cb := countI y.items) (fun z hz => by rw [count_out (fun it h => (hiz it h).1) hz, count_out (fun it h => (hjz it h).1) hz]))
 have HT0 := Lib.hid (turn_zero (changesL (numbersL xs) (countI x.items) (countI y.items)) (countI x.items) (countI y.items))
 have HLN := Lib.hid (count_len HPS.out hjp (fun it h => ⟨(hjz it h).1, (hjz it h).2.1⟩))
 have HDI := Lib.hid (fun i hi => diff_in (a := x.dims) (b := y.dims) (i := i) hi)
 have HTK := Lib.hid (fun j hj => count_take hip (j := j) hj)
 have HEL := Lib.hid (fun j hj => count_elem hjp (j := j) hj)
 clear hde hdf HDF HRI HDL hip hjp hiz hjz HA1 HA2 HLO HDR HQ1
 generalize hch : changesL (numbersL xs) (countI x.items) (countI y.items) = ch at *
 generalize hdl : diffL x.dims y.dims = dl at *
 have hdl8 : dl.length ≤ 8 := by omega
 clear hll hch hdl
 have LBc := LB_7.out.cell 0
 have LBz := LB_7.out.lt
 go_wp2_with fail
 refine (differ_s (RA_7.out.after ((Below.refl _ w7).alloc (Nat.le_refl _) (.cells #[.int .i64 d, .int .i64 (1 + (k : Int) % L), .int .u8 y.k, .slice A7 y.items.length c7, .slice B7 y.dims.length d7] 45))) HDE.out).mono ?_
 rintro e8 w8 ⟨A8, c8, B8, d8, rfl, hi, hj, hb⟩
 have hq8 : Below w7.heap.size w7 w8 := by (repeat' (first | (with_reducible first | exact Below.refl _ _ | assumption | refine Below.alloc ?_ ?_ _ | refine Below.setCell ?_ ?_ _ | refine below_row ?_ ?_ _ | refine Below.drew ?_ | refine below_drewN ?_ _ | refine Below.trans ?_ (Below.mono (by assumption) ?_)) | exact Nat.le_refl _ | omega | (simp; done) | (simp; omega) | exact Below.size (by assumption)))
 clear LBc LBz
 have LB_8 := Lib.hid (LB_7.out.after hq8)
 clear LB_7
 have RA_8 := Lib.hid (RA_7.out.after hq8)
 clear RA_7
 have IX_8 := Lib.hid (IX_7.out.after hq8)
 clear IX_7
 have DX_8 := Lib.hid (DX_7.out.after hq8)
 clear DX_7
 have LX_8 := Lib.hid (LX_7.out.after hq8)
 clear LX_7
 have IY_8 := Lib.hid (IY_7.out.after hq8)
 clear IY_7
 have DY_8 := Lib.hid (DY_7.out.after hq8)
 clear DY_7
 have LY_8 := Lib.hid ((Lies.made w7 45 #[.int .i64 d, .int .i64 (1 + (k : Int) % L), .int .u8 y.k, .slice A7 y.items.length c7, .slice B7 y.dims.length d7]).after hb)
 have CH_8 := Lib.hid hi
 have DL_8 := Lib.hid hj
 have hb8 : Below w.heap.size w w8 := hb7.trans (hq8.mono hb7.size)
 clear hi hj hq8
 clear hb
 have LBc := LB_8.out.cell 0
 have LBz := LB_8.out.lt
 go_wp2_with fail
 refine (differ_s RA_8.out HDB.out).mono ?_
 rintro e9 w9 ⟨A9, c9, B9, d9, rfl, hi, hj, hb⟩
 have hq9 : Below w8.heap.size w8 w9 := by (repeat' (first | (with_reducible first | exact Below.refl _ _ | assumption | refine Below.alloc ?_ ?_ _ | refine Below.setCell ?_ ?_ _ | refine below_row ?_ ?_ _ | refine Below.drew ?_ | refine below_drewN ?_ _ | refine Below.trans ?_ (Below.mono (by assumption) ?_)) | exact Nat.le_refl _ | omega | (simp; done) | (simp; omega) | exact Below.size (by assumption)))
 clear LBc LBz
 have LB_9 := Lib.hid (LB_8.out.after hq9)
 clear LB_8
 have RA_9 := Lib.hid (RA_8.out.after hq9)
 clear RA_8
 have IX_9 := Lib.hid (IX_8.out.after hq9)
 clear IX_8
 have DX_9 := Lib.hid (DX_8.out.after hq9)
 clear DX_8
 have LX_9 := Lib.hid (LX_8.out.after hq9)
 clear LX_8
 have IY_9 := Lib.hid (IY_8.out.after hq9)
 clear IY_8
 have DY_9 := Lib.hid (DY_8.out.after hq9)
 clear DY_8
 have LY_9 := Lib.hid (LY_8.out.after hq9)
 clear LY_8
 have CH_9 := Lib.hid (CH_8.out.after hq9)
 clear CH_8
 have DL_9 := Lib.hid (DL_8.out.after hq9)
 clear DL_8
 have CB_9 := Lib.hid hi
 have DM_9 := Lib.hid hj
 have hb9 : Below w.heap.size w w9 := hb8.trans (hq9.mono hb8.size)
 clear hi hj hb hq9
 have hml : (ch.map fun z => (z.1, z.2.2, z.2.1)).length = ch.length := List.length_map _
 have HML := Lib.hid hml
 clear hml
 go_wp2_with fail
 refine (rSameInts_t DL_9.out DM_9.out (by omega)).mono ?_
 rintro e10 w10 ⟨rfl, hb⟩
 have hq10 : Below w9.heap.size w9 w10 := by (repeat' (first | (with_reducible first | exact Below.refl _ _ | assumption | refine Below.alloc ?_ ?_ _ | refine Below.setCell ?_ ?_ _ | refine below_row ?_ ?_ _ | refine Below.drew ?_ | refine below_drewN ?_ _ | refine Below.trans ?_ (Below.mono (by assumption) ?_)) | exact Nat.le_refl _ | omega | (simp; done) | (simp; omega) | exact Below.size (by assumption)))
 have LB_10 := Lib.hid (LB_9.out.after hq10)
 clear LB_9
 have RA_10 := Lib.hid (RA_9.out.after hq10)
 clear RA_9
 have IX_10 := Lib.hid (IX_9.out.after hq10)
 clear IX_9
 have DX_10 := Lib.hid (DX_9.out.after hq10)
 clear DX_9
 have LX_10 := Lib.hid (LX_9.out.after hq10)
 clear LX_9
 have IY_10 := Lib.hid (IY_9.out.after hq10)
 clear IY_9
 have DY_10 := Lib.hid (DY_9.out.after hq10)
 clear DY_9
 have LY_10 := Lib.hid (LY_9.out.after hq10)
 clear LY_9
 have CH_10 := Lib.hid (CH_9.out.after hq10)
 clear CH_9
 have DL_10 := Lib.hid (DL_9.out.after hq10)
 clear DL_9
 have CB_10 := Lib.hid (CB_9.out.after hq10)
 clear CB_9
 have DM_10 := Lib.hid (DM_9.out.after hq10)
 clear DM_9
 have hb10 : Below w.heap.size w w10 := hb9.trans (hq10.mono hb9.size)
 clear hb hq10
 clear DM_10
 clear RA_10
 clear LB_10
 have hbw : Below w.heap.size w w10 := hb10
 obtain ⟨A', c', bI, oI, eI, hAI, hcI⟩ := IX_10.out
 injection eI with e1 e2 e3
 subst e1 e3
 obtain ⟨A', c', bJ, oJ, eJ, hAJ, hcJ⟩ := IY_10.out
 injection eJ with e1 e2 e3
 subst e1 e3
 obtain ⟨A', c', bC, oC, eC, hAC, hcC⟩ := CH_10.out
 injection eC with e1 e2 e3
 subst e1 e3
 obtain ⟨A', c', bK, oK, eK, hAK, hcK⟩ := CB_10.out
 injection eK with e1 e2 e3
 subst e1 e3
 have HAI := Lib.hid hAI
 have HCI := Lib.hid hcI
 have HAJ := Lib.hid hAJ
 have HCJ := Lib.hid hcJ
 have HAC := Lib.hid hAC
 have HCC := Lib.hid hcC
 have HAK := Lib.hid hAK
 have HCK : Hid (∀ i (h : i < ch.length), w10.cell? ⟨bK, oK + i * 3, none⟩ = some (.int .i64 ((ch[i]).1)) ∧ w10.cell? ⟨bK, oK + i * 3 + 1, none⟩ = some (.int .i64 ((ch[i]).2.2)) ∧ w10.cell? ⟨bK, oK + i * 3 + 2, none⟩ = some (.int .i64 ((ch[i]).2.1))) := Lib.hid (fun i h => by
  have := hcK i (by rw [HML.out]; exact h)
  simpa using this)
 have HAKK : Hid (0 < ch.length → A9 = some ⟨bK, oK, none⟩) := Lib.hid (fun h => HAK.out (by rw [HML.out]; exact h))
 have HLX := Lib.hid (fun W (hW : Below w10.heap.size w10 W) => And.intro (LX_10.out.after hW) (LY_10.out.after hW))
 have HDLR := Lib.hid (fun W (hW : Below w10.heap.size w10 W) => DL_10.out.after hW)
 have HDX := Lib.hid DX_10.out
 have HDY := Lib.hid DY_10.out
 have hal := HLX.out w10 (Below.refl _ _)
 have p3 := hal.1.cell 3
 have zp := hal.1.lt
 clear hal hAI hcI hAJ hcJ hAC hcC hAK hcK IX_10 IY_10 CH_10 CB_10 LX_10 LY_10 DL_10 DX_10 DY_10 HAK
 have hmm := @run_makeMap Try.prog
 go_wp2_with fail
 clear hmm
 go_loopw [123] (fun j ws => ∃ jj : Nat, j = .int .i64 jj ∧ jj ≤ x.items.length ∧ Hid (CMap ws w10.heap.size jj (numbersL xs) (countI (x.items.take jj))) ∧ Below w10.heap.size w10 ws) (fun j _ => x.items.length - (intOf j).toNat)
 case atStart => exact ⟨0, rfl, by omega, Lib.hid (by rw [List.take_zero]; exact CMap.made w10 (numbersL xs)), by (repeat' (first | (with_reducible first | exact Below.refl _ _ | assumption | refine Below.alloc ?_ ?_ _ | refine Below.setCell ?_ ?_ _ | refine below_row ?_ ?_ _ | refine Below.drew ?_ | refine below_drewN ?_ _ | refine Below.trans ?_ (Below.mono (by assumption) ?_)) | exact Nat.le_refl _ | omega | (simp; done) | (simp; omega) | exact Below.size (by assumption)))⟩
 case round =>
  obtain ⟨j, rfl, hj, HM, hb⟩ := hrel
  by_cases hjt : j < x.items.length
  ·have kl1 : (j : Int) < (x.items.length : Int) := by omega
   obtain rfl := HAI.out (by omega)
   have i0 := cell_keep hb (HCI.out j hjt).1
   have i1 := cell_keep hb (HCI.out j hjt).2
   obtain ⟨hz1, hz2, hz3⟩ := HIZ.out _ (List.getElem_mem hjt)
   have HTJ := Lib.hid (HTK.out j hjt)
   generalize x.items[j] = it at *
   obtain ⟨ia, ic⟩ := it
   simp only at i0 i1 hz1 hz2 hz3 HTJ
   have hnz := HNB.out ia hz1
   have hNz : NIn ia := by unfold NIn; omega
   have HMW := Lib.hid (KMap.alloc HM.out (.cells #[.int .i64 ia, .int .i64 ic] 52))
   obtain ⟨w11, hrun, hm11, ht11⟩ := CMap.add HMW.out (by omega) HPS.out hz1 hNz (v := ic) (by unfold NIn; omega) (by omega)
   have hb11 : Below w10.heap.size w10 w11 := turned_below ht11 (Nat.le_refl _) w10 (hb.alloc hb.size _) (by have := hb.size; simp; omega)
   rw [HTJ.out] at hm11
   have HM11 := Lib.hid hm11
   clear hm11 ht11 HMW hz1 HM HTJ hNz hnz
   go_wp2_with fail
   go_roundw
   case rel => exact ⟨j + 1, by go_num, by omega, HM11, hb11⟩
   case measure => simp [intOf]; omega
  ·have hje : j = x.items.length := by omega
   have HM2 : Hid (CMap wr w10.heap.size x.items.length (numbersL xs) (turnS ch (countI x.items) (countI y.items) 0)) := Lib.hid (by have := HM.out; rw [hje, List.take_length] at this; rw [HT0.out]; exact this)
   have kl1 : ¬ (j : Int) < (x.items.length : Int) := by omega
   clear HM hje
   obtain ⟨wy, rfl⟩ : ∃ z, z = wr := ⟨_, rfl⟩
   have hby : Below w10.heap.size w10 wy := hb
   go_wp2_with fail
   go_loopw [135] (fun i ws => ∃ ii : Nat, i = .int .i64 ii ∧ ii ≤ ch.length ∧ Hid (CMap ws w10.heap.size (x.items.length + ii) (numbersL xs) (turnS ch (countI x.items) (countI y.items) ii)) ∧ Below w10.heap.size w10 ws) (fun i _ => ch.length - (intOf i).toNat)
   case atStart => exact ⟨0, rfl, by omega, HM2, hby⟩
   case round =>
    obtain ⟨i, rfl, hi, HM3, hb3⟩ := hrel
    by_cases hit : i < ch.length
    ·have kl2 : (i : Int) < (ch.length : Int) := by omega
     obtain rfl := HAC.out (by omega)
     obtain rfl := HAKK.out (by omega)
     obtain ⟨q0, q1, q2⟩ := HCC.out i hit
     have j0 := cell_keep hb3 q0
     have j1 := cell_keep hb3 q1
     have j2 := cell_keep hb3 q2
     obtain ⟨q3, q4, q5⟩ := HCK.out i hit
     have b0 := cell_keep hb3 q3
     have b1 := cell_keep hb3 q4
     have b2 := cell_keep hb3 q5
     obtain ⟨m1, m2, m3, m4⟩ := (HCM.out _).1 (List.getElem_mem hit)
     have hta := HTA.out i hit
     have HTB := Lib.hid (HTN.out i hit)
     have hprev : 0 < i → ∃ z : D3, z.1 < (ch[i]).1 ∧ wr.cell? ⟨bC, oC + (i - 1) * 3, none⟩ = some (.int .i64 z.1) := fun h => by
      refine ⟨ch[i - 1]'(by omega), List.pairwise_iff_getElem.1 HSO.out (i - 1) i (by omega) hit (by omega), cell_keep hb3 (HCC.out (i - 1) (by omega)).1⟩
     have HPR := Lib.hid hprev
     have hc0 : 0 ≤ countI y.items (ch[i]).1 ∧ countI y.items (ch[i]).1 ≤ 20 := by
      by_cases e : ∃ it ∈ y.items, it.1 = (ch[i]).1
      ·obtain ⟨it, hit2, e⟩ := e
       obtain ⟨jj, hjj, rfl⟩ := List.getElem_of_mem hit2
       have h5 := HEL.out jj hjj
       rw [e] at h5
       rw [h5]
       have := HJZ.out _ (List.getElem_mem hjj)
       omega
      ·rw [countI_no (fun p hp e2 => e ⟨_, List.getElem_mem hp, e2⟩)]; omega
     rw [← m3] at hc0
     have hne : ¬ (ch[i]).2.1 = (ch[i]).2.2 := by rw [m2, m3]; exact m4
     have hs1 : 0 ≤ (ch[i]).2.1 := by
      rw [m2]
      by_cases e : 0 ≤ countI x.items (ch[i]).1
      ·exact e
      ·exfalso
       by_cases e2 : ∃ it ∈ x.items, it.1 = (ch[i]).1
       ·obtain ⟨it, hit2, e2⟩ := e2
        obtain ⟨jj, hjj, rfl⟩ := List.getElem_of_mem hit2
        have h5 := count_elem HIP.out hjj
        rw [e2] at h5
        have := HIZ.out _ (List.getElem_mem hjj)
        omega
       ·rw [countI_no (fun p hp e3 => e2 ⟨_, List.getElem_mem hp, e3⟩)] at e; omega
     clear q0 q1 q2 q3 q4 q5 m2 m3 m4 hprev
     generalize ch[i] = cz at *
     obtain ⟨za, zb, zc⟩ := cz
     simp only at j0 j1 j2 b0 b1 b2 m1 hta HTB HPR hc0 hne hs1
     have hnz := HNB.out za m1
     have hNz : NIn za := by unfold NIn; omega
     have hbc : (zb == zc) = false := by rw [beq_eq_false_iff_ne]; exact hne
     have HMW := Lib.hid (show CMap (wr.alloc (.cells #[.int .i64 za, .int .i64 zb, .int .i64 zc] 110)) w10.heap.size (x.items.length + i) (numbersL xs) (turnS ch (countI x.items) (countI y.items) i) from KMap.alloc HM3.out (.cells #[.int .i64 za, .int .i64 zb, .int .i64 zc] 110))
     have hlk := look_drewN HMW.out hNz
     rw [hta] at hlk
     have LC := Lib.hid (Lies.made wr 110 #[.int .i64 za, .int .i64 zb, .int .i64 zc])
     have hw11 : Below w10.heap.size w10 (wr.alloc (.cells #[.int .i64 za, .int .i64 zb, .int .i64 zc] 110)) := hb3.alloc hb3.size _
     have hss := hb3.size
     by_cases hi0 : i = 0
     ·have ki4 : ¬ (0 : Int) < (i : Int) := by omega
      have ki6 : ¬ 0 < i := by omega
      clear hi0
      clear HPR
      go_upto_region 21 with fail
      have b0 := keep_nw (o := .cells #[.int .i64 za, .int .i64 zb, .int .i64 zc] 110) b0
      have b1 := keep_nw (o := .cells #[.int .i64 za, .int .i64 zb, .int .i64 zc] 110) b1
      have b2 := keep_nw (o := .cells #[.int .i64 za, .int .i64 zb, .int .i64 zc] 110) b2
      have c0 := LC.out.cell 0
      have c1 := LC.out.cell 1
      have c2 := LC.out.cell 2
      generalize hwq : wr.alloc (.cells #[.int .i64 za, .int .i64 zb, .int .i64 zc] 110) = wq at *
      refine wp_region_held_drew (S := fun W => ∃ nn : Nat, W = wq.drewN nn) (by kernel_rfl) ⟨1, rfl⟩ (fun hHeld => ?_)
      refine take_q (i := 0) (v := ?_) (fun w hS => ?_) ?_
      rotate_left
      ·(obtain ⟨nn, rfl⟩ := hS; go_simp; try with_reducible rfl)
      try simp only [Act.put, List.setIfInBounds_toArray, List.set_cons_zero, List.set_cons_succ]
      refine take_q (i := 1) (v := ?_) (fun w hS => ?_) ?_
      rotate_left
      ·(obtain ⟨nn, rfl⟩ := hS; go_simp; try with_reducible rfl)
      try simp only [Act.put, List.setIfInBounds_toArray, List.set_cons_zero, List.set_cons_succ]
      refine take_q (i := 2) (v := ?_) (fun w hS => ?_) ?_
      rotate_left
      ·(obtain ⟨nn, rfl⟩ := hS; go_simp; try with_reducible rfl)
      try simp only [Act.put, List.setIfInBounds_toArray, List.set_cons_zero, List.set_cons_succ]
      refine take_q (i := 3) (v := ?_) (fun w hS => ?_) ?_
      rotate_left
      ·(obtain ⟨nn, rfl⟩ := hS; go_simp; try with_reducible rfl)
      try simp only [Act.put, List.setIfInBounds_toArray, List.set_cons_zero, List.set_cons_succ]
      refine take_q (i := 4) (v := ?_) (fun w hS => ?_) ?_
      rotate_left
      ·(obtain ⟨nn, rfl⟩ := hS; go_simp; try with_reducible rfl)
      try simp only [Act.put, List.setIfInBounds_toArray, List.set_cons_zero, List.set_cons_succ]
      refine take_q (i := 5) (v := ?_) (fun w hS => ?_) ?_
      rotate_left
      ·(obtain ⟨nn, rfl⟩ := hS; go_simp; try with_reducible rfl)
      try simp only [Act.put, List.setIfInBounds_toArray, List.set_cons_zero, List.set_cons_succ]
      refine take_q (i := 6) (v := ?_) (fun w hS => ?_) ?_
      rotate_left
      ·(obtain ⟨nn, rfl⟩ := hS; go_simp; try with_reducible rfl)
      try simp only [Act.put, List.setIfInBounds_toArray, List.set_cons_zero, List.set_cons_succ]
      refine take_q (i := 7) (v := ?_) (fun w hS => ?_) ?_
      rotate_left
      ·(obtain ⟨nn, rfl⟩ := hS; go_simp; try with_reducible rfl)
      try simp only [Act.put, List.setIfInBounds_toArray, List.set_cons_zero, List.set_cons_succ]
      refine take_q (i := 8) (v := ?_) (fun w hS => ?_) ?_
      rotate_left
      ·(obtain ⟨nn, rfl⟩ := hS; go_simp; try with_reducible rfl)
      try simp only [Act.put, List.setIfInBounds_toArray, List.set_cons_zero, List.set_cons_succ]
      refine take_q (i := 9) (v := ?_) (fun w hS => ?_) ?_
      rotate_left
      ·(obtain ⟨nn, rfl⟩ := hS; go_simp; try with_reducible rfl)
      try simp only [Act.put, List.setIfInBounds_toArray, List.set_cons_zero, List.set_cons_succ]
      refine take_q (i := 10) (v := ?_) (fun w hS => ?_) ?_
      rotate_left
      ·(obtain ⟨nn, rfl⟩ := hS; go_simp; try with_reducible rfl)
      try simp only [Act.put, List.setIfInBounds_toArray, List.set_cons_zero, List.set_cons_succ]
      refine take_q (i := 11) (v := ?_) (fun w hS => ?_) ?_
      rotate_left
      ·(obtain ⟨nn, rfl⟩ := hS; go_simp; try with_reducible rfl)
      try simp only [Act.put, List.setIfInBounds_toArray, List.set_cons_zero, List.set_cons_succ]
      refine take_q (i := 12) (v := ?_) (fun w hS => ?_) ?_
      rotate_left
      ·(obtain ⟨nn, rfl⟩ := hS; go_simp; try with_reducible rfl)
      try simp only [Act.put, List.setIfInBounds_toArray, List.set_cons_zero, List.set_cons_succ]
      refine take_q (i := 13) (v := ?_) (fun w hS => ?_) ?_
      rotate_left
      ·(obtain ⟨nn, rfl⟩ := hS; go_simp; try with_reducible rfl)
      try simp only [Act.put, List.setIfInBounds_toArray, List.set_cons_zero, List.set_cons_succ]
      refine take_q (i := 14) (v := ?_) (fun w hS => ?_) ?_
      rotate_left
      ·(obtain ⟨nn, rfl⟩ := hS; go_simp; try with_reducible rfl)
      try simp only [Act.put, List.setIfInBounds_toArray, List.set_cons_zero, List.set_cons_succ]
      refine take_q (i := 15) (v := ?_) (fun w hS => ?_) ?_
      rotate_left
      ·(obtain ⟨nn, rfl⟩ := hS; go_simp; try with_reducible rfl)
      try simp only [Act.put, List.setIfInBounds_toArray, List.set_cons_zero, List.set_cons_succ]
      refine take_q (i := 16) (v := ?_) (fun w hS => ?_) ?_
      rotate_left
      ·(obtain ⟨nn, rfl⟩ := hS; go_simp; try with_reducible rfl)
      try simp only [Act.put, List.setIfInBounds_toArray, List.set_cons_zero, List.set_cons_succ]
      refine take_q (i := 17) (v := ?_) (fun w hS => ?_) ?_
      rotate_left
      ·(obtain ⟨nn, rfl⟩ := hS; go_simp; try with_reducible rfl)
      try simp only [Act.put, List.setIfInBounds_toArray, List.set_cons_zero, List.set_cons_succ]
      refine take_q (i := 18) (v := ?_) (fun w hS => ?_) ?_
      rotate_left
      ·(obtain ⟨nn, rfl⟩ := hS; go_simp; try with_reducible rfl)
      try simp only [Act.put, List.setIfInBounds_toArray, List.set_cons_zero, List.set_cons_succ]
      refine take_q (i := 19) (v := ?_) (fun w hS => ?_) ?_
      rotate_left
      ·(obtain ⟨nn, rfl⟩ := hS; go_simp; try with_reducible rfl)
      try simp only [Act.put, List.setIfInBounds_toArray, List.set_cons_zero, List.set_cons_succ]
      refine take_q (i := 20) (v := ?_) (fun w hS => ?_) ?_
      rotate_left
      ·(obtain ⟨nn, rfl⟩ := hS; go_simp; try with_reducible rfl)
      try simp only [Act.put, List.setIfInBounds_toArray, List.set_cons_zero, List.set_cons_succ]
      refine take_q (i := 21) (v := ?_) (fun w hS => ?_) ?_
      rotate_left
      ·(obtain ⟨nn, rfl⟩ := hS; go_simp; try with_reducible rfl)
      try simp only [Act.put, List.setIfInBounds_toArray, List.set_cons_zero, List.set_cons_succ]
      refine take_q (i := 22) (v := ?_) (fun w hS => ?_) ?_
      rotate_left
      ·(obtain ⟨nn, rfl⟩ := hS; go_simp; try with_reducible rfl)
      try simp only [Act.put, List.setIfInBounds_toArray, List.set_cons_zero, List.set_cons_succ]
      refine take_q (i := 23) (v := ?_) (fun w hS => ?_) ?_
      rotate_left
      ·(obtain ⟨nn, rfl⟩ := hS; go_simp; try with_reducible rfl)
      try simp only [Act.put, List.setIfInBounds_toArray, List.set_cons_zero, List.set_cons_succ]
      refine take_q (i := 24) (v := ?_) (fun w hS => ?_) ?_
      rotate_left
      ·(obtain ⟨nn, rfl⟩ := hS; go_simp; try with_reducible rfl)
      try simp only [Act.put, List.setIfInBounds_toArray, List.set_cons_zero, List.set_cons_succ]
      refine take_q (i := 25) (v := ?_) (fun w hS => ?_) ?_
      rotate_left
      ·(obtain ⟨nn, rfl⟩ := hS; go_simp; try with_reducible rfl)
      try simp only [Act.put, List.setIfInBounds_toArray, List.set_cons_zero, List.set_cons_succ]
      refine take_q (i := 26) (v := ?_) (fun w hS => ?_) ?_
      rotate_left
      ·(obtain ⟨nn, rfl⟩ := hS; go_simp; try with_reducible rfl)
      try simp only [Act.put, List.setIfInBounds_toArray, List.set_cons_zero, List.set_cons_succ]
      refine take_q (i := 27) (v := ?_) (fun w hS => ?_) ?_
      rotate_left
      ·(obtain ⟨nn, rfl⟩ := hS; go_simp; try with_reducible rfl)
      try simp only [Act.put, List.setIfInBounds_toArray, List.set_cons_zero, List.set_cons_succ]
      refine take_q (i := 28) (v := ?_) (fun w hS => ?_) ?_
      rotate_left
      ·(obtain ⟨nn, rfl⟩ := hS; go_simp; try with_reducible rfl)
      try simp only [Act.put, List.setIfInBounds_toArray, List.set_cons_zero, List.set_cons_succ]
      refine take_q (i := 29) (v := ?_) (fun w hS => ?_) ?_
      rotate_left
      ·(obtain ⟨nn, rfl⟩ := hS; go_simp; try with_reducible rfl)
      try simp only [Act.put, List.setIfInBounds_toArray, List.set_cons_zero, List.set_cons_succ]
      refine take_q (i := 30) (v := ?_) (fun w hS => ?_) ?_
      rotate_left
      ·(obtain ⟨nn, rfl⟩ := hS; go_simp; try with_reducible rfl)
      try simp only [Act.put, List.setIfInBounds_toArray, List.set_cons_zero, List.set_cons_succ]
      refine take_q (i := 31) (v := ?_) (fun w hS => ?_) ?_
      rotate_left
      ·(obtain ⟨nn, rfl⟩ := hS; go_simp; try with_reducible rfl)
      try simp only [Act.put, List.setIfInBounds_toArray, List.set_cons_zero, List.set_cons_succ]
      refine take_at (i := 32) (v := undef) rfl (by kernel_rfl) (by kernel_rfl) (by kernel_rfl) (fun _ _ _ h => h) (Or.inr ⟨by rfl, rfl⟩) (by assumption) ?_
      try simp only [Act.put, List.setIfInBounds_toArray, List.set_cons_zero, List.set_cons_succ]
      refine take_at (i := 33) (v := undef) rfl (by kernel_rfl) (by kernel_rfl) (by kernel_rfl) (fun _ _ _ h => h) (Or.inr ⟨by rfl, rfl⟩) (by assumption) ?_
      try simp only [Act.put, List.setIfInBounds_toArray, List.set_cons_zero, List.set_cons_succ]
      refine take_at (i := 34) (v := undef) rfl (by kernel_rfl) (by kernel_rfl) (by kernel_rfl) (fun _ _ _ h => h) (Or.inr ⟨by rfl, rfl⟩) (by assumption) ?_
      try simp only [Act.put, List.setIfInBounds_toArray, List.set_cons_zero, List.set_cons_succ]
      refine take_at (i := 35) (v := undef) rfl (by kernel_rfl) (by kernel_rfl) (by kernel_rfl) (fun _ _ _ h => h) (Or.inr ⟨by rfl, rfl⟩) (by assumption) ?_
      try simp only [Act.put, List.setIfInBounds_toArray, List.set_cons_zero, List.set_cons_succ]
      refine take_at (i := 36) (v := undef) rfl (by kernel_rfl) (by kernel_rfl) (by kernel_rfl) (fun _ _ _ h => h) (Or.inr ⟨by rfl, rfl⟩) (by assumption) ?_
      try simp only [Act.put, List.setIfInBounds_toArray, List.set_cons_zero, List.set_cons_succ]
      refine take_at (i := 37) (v := undef) rfl (by kernel_rfl) (by kernel_rfl) (by kernel_rfl) (fun _ _ _ h => h) (Or.inr ⟨by rfl, rfl⟩) (by assumption) ?_
      try simp only [Act.put, List.setIfInBounds_toArray, List.set_cons_zero, List.set_cons_succ]
      refine take_at (i := 38) (v := undef) rfl (by kernel_rfl) (by kernel_rfl) (by kernel_rfl) (fun _ _ _ h => h) (Or.inr ⟨by rfl, rfl⟩) (by assumption) ?_
      try simp only [Act.put, List.setIfInBounds_toArray, List.set_cons_zero, List.set_cons_succ]
      refine take_at (i := 39) (v := undef) rfl (by kernel_rfl) (by kernel_rfl) (by kernel_rfl) (fun _ _ _ h => h) (Or.inr ⟨by rfl, rfl⟩) (by assumption) ?_
      try simp only [Act.put, List.setIfInBounds_toArray, List.set_cons_zero, List.set_cons_succ]
      refine take_at (i := 40) (v := undef) rfl (by kernel_rfl) (by kernel_rfl) (by kernel_rfl) (fun _ _ _ h => h) (Or.inr ⟨by rfl, rfl⟩) (by assumption) ?_
      try simp only [Act.put, List.setIfInBounds_toArray, List.set_cons_zero, List.set_cons_succ]
      refine take_q (i := 41) (v := ?_) (fun w hS => ?_) ?_
      rotate_left
      ·(obtain ⟨nn, rfl⟩ := hS; go_simp; try with_reducible rfl)
      try simp only [Act.put, List.setIfInBounds_toArray, List.set_cons_zero, List.set_cons_succ]
      refine take_q (i := 42) (v := ?_) (fun w hS => ?_) ?_
      rotate_left
      ·(obtain ⟨nn, rfl⟩ := hS; go_simp; try with_reducible rfl)
      try simp only [Act.put, List.setIfInBounds_toArray, List.set_cons_zero, List.set_cons_succ]
      refine wpAnyH_done (by kernel_rfl) ?_ _
      have hm5 : CMap wq.drew w10.heap.size (x.items.length + i) (numbersL xs) (turnS ch (countI x.items) (countI y.items) i) := HMW.out
      have LD : Hid (Lies wq.drew wr.heap.size 110 #[.int .i64 za, .int .i64 zb, .int .i64 zc]) := Lib.hid LC.out
      by_cases hzc : zc = 0
      ·subst hzc
       obtain ⟨u1, u2, hr1, hr2, hm6, ⟨K6, m6, S6, hk6⟩, t1, t2⟩ := CMap.strike hm5 (by omega) HPS.out m1 hNz (by rw [hta]; omega) 0
       have LC1 := Lib.hid (lies_turned2 LD.out hm5 t1)
       have c0 := LC1.out.cell 0
       have c2 := LC1.out.cell 2
       have zc1 := LC1.out.lt
       rw [HTB.out] at hm6
       have HM6 := Lib.hid hm6
       have hb6 : Below w10.heap.size w10 u2 := turned_below t2 (Nat.le_refl _) w10 (turned_below t1 (Nat.le_refl _) w10 hw11.drew (hw11.size)) (by rw [turned_size t1]; exact hw11.size)
       clear hm6 hk6 t1 t2 HMW hm5 LC LD LC1 HTB hta hlk
       go_wp2_with fail
       go_roundw
       case rel => exact ⟨i + 1, by go_num, by omega, HM6, hb6⟩
       case measure => simp [intOf]; omega
      ·have hzc2 : (zc == 0) = false := by rw [beq_eq_false_iff_ne]; exact hzc
       obtain ⟨u1, hr1, hm6, t1⟩ := CMap.add hm5 (by omega) HPS.out m1 hNz (v := zc) (by unfold NIn; omega) (by omega)
       have LC1 := Lib.hid (lies_turned2 LD.out hm5 t1)
       have c0 := LC1.out.cell 0
       have c2 := LC1.out.cell 2
       have zc1 := LC1.out.lt
       rw [HTB.out] at hm6
       have HM6 := Lib.hid hm6
       have hb6 : Below w10.heap.size w10 u1 := turned_below t1 (Nat.le_refl _) w10 hw11.drew (hw11.size)
       clear hm6 t1 HMW hm5 LC LD LC1 HTB hta hlk
       go_wp2_with fail
       go_roundw
       case rel => exact ⟨i + 1, by go_num, by omega, HM6, hb6⟩
       case measure => simp [intOf]; omega
     ·obtain ⟨zp3, hpl, pc⟩ := HPR.out (by omega)
      have ki1 : IntKind.i64.wrap ((i : Int) - 1) = (i : Int) - 1 := IntWalk.i64_in _ (by omega)
      have ki2 : 1 ≤ (i : Int) := by omega
      have ki3 : (i : Int) - 1 < (ch.length : Int) := by omega
      have ki4 : (0 : Int) < (i : Int) := by omega
      have ki5 : ¬ za ≤ zp3.1 := by omega
      have ki6 : 0 < i := by omega
      clear HPR
      go_upto_region 21 with fail
      have b0 := keep_nw (o := .cells #[.int .i64 za, .int .i64 zb, .int .i64 zc] 110) b0
      have b1 := keep_nw (o := .cells #[.int .i64 za, .int .i64 zb, .int .i64 zc] 110) b1
      have b2 := keep_nw (o := .cells #[.int .i64 za, .int .i64 zb, .int .i64 zc] 110) b2
      have pc := keep_nw (o := .cells #[.int .i64 za, .int .i64 zb, .int .i64 zc] 110) pc
      have c0 := LC.out.cell 0
      have c1 := LC.out.cell 1
      have c2 := LC.out.cell 2
      generalize hwq : wr.alloc (.cells #[.int .i64 za, .int .i64 zb, .int .i64 zc] 110) = wq at *
      refine wp_region_held_drew (S := fun W => ∃ nn : Nat, W = wq.drewN nn) (by kernel_rfl) ⟨1, rfl⟩ (fun hHeld => ?_)
      refine take_q (i := 0) (v := ?_) (fun w hS => ?_) ?_
      rotate_left
      ·(obtain ⟨nn, rfl⟩ := hS; go_simp; try with_reducible rfl)
      try simp only [Act.put, List.setIfInBounds_toArray, List.set_cons_zero, List.set_cons_succ]
      refine take_q (i := 1) (v := ?_) (fun w hS => ?_) ?_
      rotate_left
      ·(obtain ⟨nn, rfl⟩ := hS; go_simp; try with_reducible rfl)
      try simp only [Act.put, List.setIfInBounds_toArray, List.set_cons_zero, List.set_cons_succ]
      refine take_q (i := 2) (v := ?_) (fun w hS => ?_) ?_
      rotate_left
      ·(obtain ⟨nn, rfl⟩ := hS; go_simp; try with_reducible rfl)
      try simp only [Act.put, List.setIfInBounds_toArray, List.set_cons_zero, List.set_cons_succ]
      refine take_q (i := 3) (v := ?_) (fun w hS => ?_) ?_
      rotate_left
      ·(obtain ⟨nn, rfl⟩ := hS; go_simp; try with_reducible rfl)
      try simp only [Act.put, List.setIfInBounds_toArray, List.set_cons_zero, List.set_cons_succ]
      refine take_q (i := 4) (v := ?_) (fun w hS => ?_) ?_
      rotate_left
      ·(obtain ⟨nn, rfl⟩ := hS; go_simp; try with_reducible rfl)
      try simp only [Act.put, List.setIfInBounds_toArray, List.set_cons_zero, List.set_cons_succ]
      refine take_q (i := 5) (v := ?_) (fun w hS => ?_) ?_
      rotate_left
      ·(obtain ⟨nn, rfl⟩ := hS; go_simp; try with_reducible rfl)
      try simp only [Act.put, List.setIfInBounds_toArray, List.set_cons_zero, List.set_cons_succ]
      refine take_q (i := 6) (v := ?_) (fun w hS => ?_) ?_
      rotate_left
      ·(obtain ⟨nn, rfl⟩ := hS; go_simp; try with_reducible rfl)
      try simp only [Act.put, List.setIfInBounds_toArray, List.set_cons_zero, List.set_cons_succ]
      refine take_q (i := 7) (v := ?_) (fun w hS => ?_) ?_
      rotate_left
      ·(obtain ⟨nn, rfl⟩ := hS; go_simp; try with_reducible rfl)
      try simp only [Act.put, List.setIfInBounds_toArray, List.set_cons_zero, List.set_cons_succ]
      refine take_q (i := 8) (v := ?_) (fun w hS => ?_) ?_
      rotate_left
      ·(obtain ⟨nn, rfl⟩ := hS; go_simp; try with_reducible rfl)
      try simp only [Act.put, List.setIfInBounds_toArray, List.set_cons_zero, List.set_cons_succ]
      refine take_q (i := 9) (v := ?_) (fun w hS => ?_) ?_
      rotate_left
      ·(obtain ⟨nn, rfl⟩ := hS; go_simp; try with_reducible rfl)
      try simp only [Act.put, List.setIfInBounds_toArray, List.set_cons_zero, List.set_cons_succ]
      refine take_q (i := 10) (v := ?_) (fun w hS => ?_) ?_
      rotate_left
      ·(obtain ⟨nn, rfl⟩ := hS; go_simp; try with_reducible rfl)
      try simp only [Act.put, List.setIfInBounds_toArray, List.set_cons_zero, List.set_cons_succ]
      refine take_q (i := 11) (v := ?_) (fun w hS => ?_) ?_
      rotate_left
      ·(obtain ⟨nn, rfl⟩ := hS; go_simp; try with_reducible rfl)
      try simp only [Act.put, List.setIfInBounds_toArray, List.set_cons_zero, List.set_cons_succ]
      refine take_q (i := 12) (v := ?_) (fun w hS => ?_) ?_
      rotate_left
      ·(obtain ⟨nn, rfl⟩ := hS; go_simp; try with_reducible rfl)
      try simp only [Act.put, List.setIfInBounds_toArray, List.set_cons_zero, List.set_cons_succ]
      refine take_q (i := 13) (v := ?_) (fun w hS => ?_) ?_
      rotate_left
      ·(obtain ⟨nn, rfl⟩ := hS; go_simp; try with_reducible rfl)
      try simp only [Act.put, List.setIfInBounds_toArray, List.set_cons_zero, List.set_cons_succ]
      refine take_q (i := 14) (v := ?_) (fun w hS => ?_) ?_
      rotate_left
      ·(obtain ⟨nn, rfl⟩ := hS; go_simp; try with_reducible rfl)
      try simp only [Act.put, List.setIfInBounds_toArray, List.set_cons_zero, List.set_cons_succ]
      refine take_q (i := 15) (v := ?_) (fun w hS => ?_) ?_
      rotate_left
      ·(obtain ⟨nn, rfl⟩ := hS; go_simp; try with_reducible rfl)
      try simp only [Act.put, List.setIfInBounds_toArray, List.set_cons_zero, List.set_cons_succ]
      refine take_q (i := 16) (v := ?_) (fun w hS => ?_) ?_
      rotate_left
      ·(obtain ⟨nn, rfl⟩ := hS; go_simp; try with_reducible rfl)
      try simp only [Act.put, List.setIfInBounds_toArray, List.set_cons_zero, List.set_cons_succ]
      refine take_q (i := 17) (v := ?_) (fun w hS => ?_) ?_
      rotate_left
      ·(obtain ⟨nn, rfl⟩ := hS; go_simp; try with_reducible rfl)
      try simp only [Act.put, List.setIfInBounds_toArray, List.set_cons_zero, List.set_cons_succ]
      refine take_q (i := 18) (v := ?_) (fun w hS => ?_) ?_
      rotate_left
      ·(obtain ⟨nn, rfl⟩ := hS; go_simp; try with_reducible rfl)
      try simp only [Act.put, List.setIfInBounds_toArray, List.set_cons_zero, List.set_cons_succ]
      refine take_q (i := 19) (v := ?_) (fun w hS => ?_) ?_
      rotate_left
      ·(obtain ⟨nn, rfl⟩ := hS; go_simp; try with_reducible rfl)
      try simp only [Act.put, List.setIfInBounds_toArray, List.set_cons_zero, List.set_cons_succ]
      refine take_q (i := 20) (v := ?_) (fun w hS => ?_) ?_
      rotate_left
      ·(obtain ⟨nn, rfl⟩ := hS; go_simp; try with_reducible rfl)
      try simp only [Act.put, List.setIfInBounds_toArray, List.set_cons_zero, List.set_cons_succ]
      refine take_q (i := 21) (v := ?_) (fun w hS => ?_) ?_
      rotate_left
      ·(obtain ⟨nn, rfl⟩ := hS; go_simp; try with_reducible rfl)
      try simp only [Act.put, List.setIfInBounds_toArray, List.set_cons_zero, List.set_cons_succ]
      refine take_q (i := 22) (v := ?_) (fun w hS => ?_) ?_
      rotate_left
      ·(obtain ⟨nn, rfl⟩ := hS; go_simp; try with_reducible rfl)
      try simp only [Act.put, List.setIfInBounds_toArray, List.set_cons_zero, List.set_cons_succ]
      refine take_q (i := 23) (v := ?_) (fun w hS => ?_) ?_
      rotate_left
      ·(obtain ⟨nn, rfl⟩ := hS; go_simp; try with_reducible rfl)
      try simp only [Act.put, List.setIfInBounds_toArray, List.set_cons_zero, List.set_cons_succ]
      refine take_q (i := 24) (v := ?_) (fun w hS => ?_) ?_
      rotate_left
      ·(obtain ⟨nn, rfl⟩ := hS; go_simp; try with_reducible rfl)
      try simp only [Act.put, List.setIfInBounds_toArray, List.set_cons_zero, List.set_cons_succ]
      refine take_q (i := 25) (v := ?_) (fun w hS => ?_) ?_
      rotate_left
      ·(obtain ⟨nn, rfl⟩ := hS; go_simp; try with_reducible rfl)
      try simp only [Act.put, List.setIfInBounds_toArray, List.set_cons_zero, List.set_cons_succ]
      refine take_q (i := 26) (v := ?_) (fun w hS => ?_) ?_
      rotate_left
      ·(obtain ⟨nn, rfl⟩ := hS; go_simp; try with_reducible rfl)
      try simp only [Act.put, List.setIfInBounds_toArray, List.set_cons_zero, List.set_cons_succ]
      refine take_q (i := 27) (v := ?_) (fun w hS => ?_) ?_
      rotate_left
      ·(obtain ⟨nn, rfl⟩ := hS; go_simp; try with_reducible rfl)
      try simp only [Act.put, List.setIfInBounds_toArray, List.set_cons_zero, List.set_cons_succ]
      refine take_q (i := 28) (v := ?_) (fun w hS => ?_) ?_
      rotate_left
      ·(obtain ⟨nn, rfl⟩ := hS; go_simp; try with_reducible rfl)
      try simp only [Act.put, List.setIfInBounds_toArray, List.set_cons_zero, List.set_cons_succ]
      refine take_q (i := 29) (v := ?_) (fun w hS => ?_) ?_
      rotate_left
      ·(obtain ⟨nn, rfl⟩ := hS; go_simp; try with_reducible rfl)
      try simp only [Act.put, List.setIfInBounds_toArray, List.set_cons_zero, List.set_cons_succ]
      refine take_q (i := 30) (v := ?_) (fun w hS => ?_) ?_
      rotate_left
      ·(obtain ⟨nn, rfl⟩ := hS; go_simp; try with_reducible rfl)
      try simp only [Act.put, List.setIfInBounds_toArray, List.set_cons_zero, List.set_cons_succ]
      refine take_q (i := 31) (v := ?_) (fun w hS => ?_) ?_
      rotate_left
      ·(obtain ⟨nn, rfl⟩ := hS; go_simp; try with_reducible rfl)
      try simp only [Act.put, List.setIfInBounds_toArray, List.set_cons_zero, List.set_cons_succ]
      refine take_q (i := 32) (v := ?_) (fun w hS => ?_) ?_
      rotate_left
      ·(obtain ⟨nn, rfl⟩ := hS; go_simp; try with_reducible rfl)
      try simp only [Act.put, List.setIfInBounds_toArray, List.set_cons_zero, List.set_cons_succ]
      refine take_q (i := 33) (v := ?_) (fun w hS => ?_) ?_
      rotate_left
      ·(obtain ⟨nn, rfl⟩ := hS; go_simp; try with_reducible rfl)
      try simp only [Act.put, List.setIfInBounds_toArray, List.set_cons_zero, List.set_cons_succ]
      refine take_q (i := 34) (v := ?_) (fun w hS => ?_) ?_
      rotate_left
      ·(obtain ⟨nn, rfl⟩ := hS; go_simp; try with_reducible rfl)
      try simp only [Act.put, List.setIfInBounds_toArray, List.set_cons_zero, List.set_cons_succ]
      refine take_q (i := 35) (v := ?_) (fun w hS => ?_) ?_
      rotate_left
      ·(obtain ⟨nn, rfl⟩ := hS; go_simp; try with_reducible rfl)
      try simp only [Act.put, List.setIfInBounds_toArray, List.set_cons_zero, List.set_cons_succ]
      refine take_q (i := 36) (v := ?_) (fun w hS => ?_) ?_
      rotate_left
      ·(obtain ⟨nn, rfl⟩ := hS; go_simp; try with_reducible rfl)
      try simp only [Act.put, List.setIfInBounds_toArray, List.set_cons_zero, List.set_cons_succ]
      refine take_q (i := 37) (v := ?_) (fun w hS => ?_) ?_
      rotate_left
      ·(obtain ⟨nn, rfl⟩ := hS; go_simp; try with_reducible rfl)
      try simp only [Act.put, List.setIfInBounds_toArray, List.set_cons_zero, List.set_cons_succ]
      refine take_q (i := 38) (v := ?_) (fun w hS => ?_) ?_
      rotate_left
      ·(obtain ⟨nn, rfl⟩ := hS; go_simp; try with_reducible rfl)
      try simp only [Act.put, List.setIfInBounds_toArray, List.set_cons_zero, List.set_cons_succ]
      refine take_q (i := 39) (v := ?_) (fun w hS => ?_) ?_
      rotate_left
      ·(obtain ⟨nn, rfl⟩ := hS; go_simp; try with_reducible rfl)
      try simp only [Act.put, List.setIfInBounds_toArray, List.set_cons_zero, List.set_cons_succ]
      refine take_q (i := 40) (v := ?_) (fun w hS => ?_) ?_
      rotate_left
      ·(obtain ⟨nn, rfl⟩ := hS; go_simp; try with_reducible rfl)
      try simp only [Act.put, List.setIfInBounds_toArray, List.set_cons_zero, List.set_cons_succ]
      refine take_q (i := 41) (v := ?_) (fun w hS => ?_) ?_
      rotate_left
      ·(obtain ⟨nn, rfl⟩ := hS; go_simp; try with_reducible rfl)
      try simp only [Act.put, List.setIfInBounds_toArray, List.set_cons_zero, List.set_cons_succ]
      refine take_q (i := 42) (v := ?_) (fun w hS => ?_) ?_
      rotate_left
      ·(obtain ⟨nn, rfl⟩ := hS; go_simp; try with_reducible rfl)
      try simp only [Act.put, List.setIfInBounds_toArray, List.set_cons_zero, List.set_cons_succ]
      refine wpAnyH_done (by kernel_rfl) ?_ _
      have hm5 : CMap wq.drew w10.heap.size (x.items.length + i) (numbersL xs) (turnS ch (countI x.items) (countI y.items) i) := HMW.out
      have LD : Hid (Lies wq.drew wr.heap.size 110 #[.int .i64 za, .int .i64 zb, .int .i64 zc]) := Lib.hid LC.out
      by_cases hzc : zc = 0
      ·subst hzc
       obtain ⟨u1, u2, hr1, hr2, hm6, ⟨K6, m6, S6, hk6⟩, t1, t2⟩ := CMap.strike hm5 (by omega) HPS.out m1 hNz (by rw [hta]; omega) 0
       have LC1 := Lib.hid (lies_turned2 LD.out hm5 t1)
       have c0 := LC1.out.cell 0
       have c2 := LC1.out.cell 2
       have zc1 := LC1.out.lt
       rw [HTB.out] at hm6
       have HM6 := Lib.hid hm6
       have hb6 : Below w10.heap.size w10 u2 := turned_below t2 (Nat.le_refl _) w10 (turned_below t1 (Nat.le_refl _) w10 hw11.drew (hw11.size)) (by rw [turned_size t1]; exact hw11.size)
       clear hm6 hk6 t1 t2 HMW hm5 LC LD LC1 HTB hta hlk
       go_wp2_with fail
       go_roundw
       case rel => exact ⟨i + 1, by go_num, by omega, HM6, hb6⟩
       case measure => simp [intOf]; omega
      ·have hzc2 : (zc == 0) = false := by rw [beq_eq_false_iff_ne]; exact hzc
       obtain ⟨u1, hr1, hm6, t1⟩ := CMap.add hm5 (by omega) HPS.out m1 hNz (v := zc) (by unfold NIn; omega) (by omega)
       have LC1 := Lib.hid (lies_turned2 LD.out hm5 t1)
       have c0 := LC1.out.cell 0
       have c2 := LC1.out.cell 2
       have zc1 := LC1.out.lt
       rw [HTB.out] at hm6
       have HM6 := Lib.hid hm6
       have hb6 : Below w10.heap.size w10 u1 := turned_below t1 (Nat.le_refl _) w10 hw11.drew (hw11.size)
       clear hm6 t1 HMW hm5 LC LD LC1 HTB hta hlk
       go_wp2_with fail
       go_roundw
       case rel => exact ⟨i + 1, by go_num, by omega, HM6, hb6⟩
       case measure => simp [intOf]; omega
    ·have hie : i = ch.length := by omega
     have HM4 : Hid (CMap wr w10.heap.size (x.items.length + i) (numbersL xs) (countI y.items)) := Lib.hid (by have := HM3.out; rw [hie, HTE.out] at this; rw [hie]; exact this)
     have hln := KMap.len HM4.out 3
     rw [HLN.out] at hln
     have kl2 : ¬ (i : Int) < (ch.length : Int) := by omega
     have hal := HLX.out wr hb3
     have p3 := hal.2.cell 3
     have zp := hal.2.lt
     clear hal HM3 hie
     obtain ⟨wz, rfl⟩ : ∃ z, z = wr := ⟨_, rfl⟩
     have hbz : Below w10.heap.size w10 wz := hb3
     go_wp2_with fail
     go_loopw [204] (fun j ws => ∃ jj : Nat, j = .int .i64 jj ∧ jj ≤ y.items.length ∧ Below wz.heap.size wz ws) (fun j _ => y.items.length - (intOf j).toNat)
     case atStart => exact ⟨0, rfl, by omega, by (repeat' (first | (with_reducible first | exact Below.refl _ _ | assumption | refine Below.alloc ?_ ?_ _ | refine Below.setCell ?_ ?_ _ | refine below_row ?_ ?_ _ | refine Below.drew ?_ | refine below_drewN ?_ _ | refine Below.trans ?_ (Below.mono (by assumption) ?_)) | exact Nat.le_refl _ | omega | (simp; done) | (simp; omega) | exact Below.size (by assumption)))⟩
     case round =>
      obtain ⟨j2, rfl, hj2, hb4⟩ := hrel
      have hvx : Below w10.heap.size w10 wr := hbz.trans (hb4.mono hbz.size)
      by_cases hjt2 : j2 < y.items.length
      ·have kl3 : (j2 : Int) < (y.items.length : Int) := by omega
       obtain rfl := HAJ.out (by omega)
       have i0 := cell_keep hvx (HCJ.out j2 hjt2).1
       have i1 := cell_keep hvx (HCJ.out j2 hjt2).2
       obtain ⟨hz1, -, -⟩ := HJZ.out _ (List.getElem_mem hjt2)
       have hel := HEL.out j2 hjt2
       generalize y.items[j2] = it at *
       obtain ⟨ia, ic⟩ := it
       simp only at i0 i1 hz1 hel
       have hnz := HNB.out ia hz1
       have hNz : NIn ia := by unfold NIn; omega
       have hlk := (KMap.imap (KMap.alloc (KMap.after HM4.out hb4) (.cells #[.int .i64 ia, .int .i64 ic] 52))).look hNz
       rw [hel] at hlk
       clear hz1 hel hNz hnz
       go_wp2_with fail
       go_roundw
       case rel => exact ⟨j2 + 1, by go_num, by omega, by (repeat' (first | (with_reducible first | exact Below.refl _ _ | assumption | refine Below.alloc ?_ ?_ _ | refine Below.setCell ?_ ?_ _ | refine below_row ?_ ?_ _ | refine Below.drew ?_ | refine below_drewN ?_ _ | refine Below.trans ?_ (Below.mono (by assumption) ?_)) | exact Nat.le_refl _ | omega | (simp; done) | (simp; omega) | exact Below.size (by assumption)))⟩
       case measure => simp [intOf]; omega
      ·have kl3 : ¬ (j2 : Int) < (y.items.length : Int) := by omega
       have hal := HLX.out wr hvx
       have p4 := hal.1.cell 4
       have zp1 := hal.1.lt
       have p5 := hal.2.cell 4
       have zp2 := hal.2.lt
       clear hal
       obtain ⟨wv, rfl⟩ : ∃ z, z = wr := ⟨_, rfl⟩
       have hbv : Below w10.heap.size w10 wv := hvx
       obtain ⟨N, hN1, hN2, hN3, hN4⟩ : ∃ N : Nat, x.dims.length ≤ N ∧ y.dims.length ≤ N ∧ N = max x.dims.length y.dims.length ∧ (N ≤ x.dims.length ∨ N ≤ y.dims.length) := ⟨max x.dims.length y.dims.length, by omega, by omega, rfl, by omega⟩
       have HN3 := Lib.hid hN3
       clear hN3 hln
       by_cases hm0 : (x.dims.length : Int) < (y.dims.length : Int)
       all_goals
        go_wp2_with fail
        go_loopw [223] (fun i ws => ∃ ii : Nat, i = .int .i64 ii ∧ ii ≤ N ∧ Below w10.heap.size w10 ws) (fun i _ => N - (intOf i).toNat)
        case atStart => exact ⟨0, rfl, by omega, hbv⟩
        case round =>
         obtain ⟨i5, rfl, hi5, hb5x⟩ := hrel
         by_cases hit5 : i5 < N
         ·have hal := HLX.out wr hb5x
          have q4 := hal.1.cell 4
          have zq1 := hal.1.lt
          have q5 := hal.2.cell 4
          have zq2 := hal.2.lt
          clear hal
          have hmem := HDI.out i5 (by rw [← HN3.out]; exact hit5)
          have hcs := has_any (i5 : Int) (HDLR.out (wr.drew) hb5x.drew) (by omega)
          first
           | (have kl6 : (i5 : Int) < (y.dims.length : Int) := by omega)
           | (have kl6 : (i5 : Int) < (x.dims.length : Int) := by omega)
          by_cases hA5 : x.dims.length ≤ i5
          ·try (exfalso; omega)
           all_goals
            have g1 : decide ((x.dims.length : Int) ≤ (i5 : Int)) = true := by simp; omega
            have g2 : (x.dims.length : Int) ≤ (i5 : Int) := by omega
            have hdd : decide ((i5 : Int) ∈ dl) = true := decide_eq_true (hmem.2 (by rw [List.getElem?_eq_none hA5, List.getElem?_eq_getElem (show i5 < y.dims.length by have := HN3.out; omega)]; simp))
            go_upto_region 38 with fail
            refine wp_region_held_drew (S := fun W => ∃ nn : Nat, W = wr.drewN nn) (by kernel_rfl) ⟨1, rfl⟩ (fun hHeld => ?_)
            refine take_q (i := 0) (v := ?_) (fun w hS => ?_) ?_
            rotate_left
            ·(obtain ⟨nn, rfl⟩ := hS; go_simp; try with_reducible rfl)
            try simp only [Act.put, List.setIfInBounds_toArray, List.set_cons_zero, List.set_cons_succ]
            refine take_q (i := 1) (v := ?_) (fun w hS => ?_) ?_
            rotate_left
            ·(obtain ⟨nn, rfl⟩ := hS; go_simp; try with_reducible rfl)
            try simp only [Act.put, List.setIfInBounds_toArray, List.set_cons_zero, List.set_cons_succ]
            refine take_q (i := 2) (v := ?_) (fun w hS => ?_) ?_
            rotate_left
            ·(obtain ⟨nn, rfl⟩ := hS; go_simp; try with_reducible rfl)
            try simp only [Act.put, List.setIfInBounds_toArray, List.set_cons_zero, List.set_cons_succ]
            refine take_q (i := 3) (v := ?_) (fun w hS => ?_) ?_
            rotate_left
            ·(obtain ⟨nn, rfl⟩ := hS; go_simp; try with_reducible rfl)
            try simp only [Act.put, List.setIfInBounds_toArray, List.set_cons_zero, List.set_cons_succ]
            refine take_q (i := 4) (v := ?_) (fun w hS => ?_) ?_
            rotate_left
            ·(obtain ⟨nn, rfl⟩ := hS; go_simp; try with_reducible rfl)
            try simp only [Act.put, List.setIfInBounds_toArray, List.set_cons_zero, List.set_cons_succ]
            refine take_q (i := 5) (v := ?_) (fun w hS => ?_) ?_
            rotate_left
            ·(obtain ⟨nn, rfl⟩ := hS; go_simp; try with_reducible rfl)
            try simp only [Act.put, List.setIfInBounds_toArray, List.set_cons_zero, List.set_cons_succ]
            refine take_at (i := 6) (v := undef) rfl (by kernel_rfl) (by kernel_rfl) (by kernel_rfl) (fun _ _ _ h => h) (Or.inr ⟨by rfl, rfl⟩) (by assumption) ?_
            try simp only [Act.put, List.setIfInBounds_toArray, List.set_cons_zero, List.set_cons_succ]
            refine take_at (i := 7) (v := undef) rfl (by kernel_rfl) (by kernel_rfl) (by kernel_rfl) (fun _ _ _ h => h) (Or.inr ⟨by rfl, rfl⟩) (by assumption) ?_
            try simp only [Act.put, List.setIfInBounds_toArray, List.set_cons_zero, List.set_cons_succ]
            refine take_at (i := 8) (v := undef) rfl (by kernel_rfl) (by kernel_rfl) (by kernel_rfl) (fun _ _ _ h => h) (Or.inr ⟨by rfl, rfl⟩) (by assumption) ?_
            try simp only [Act.put, List.setIfInBounds_toArray, List.set_cons_zero, List.set_cons_succ]
            refine take_at (i := 9) (v := undef) rfl (by kernel_rfl) (by kernel_rfl) (by kernel_rfl) (fun _ _ _ h => h) (Or.inr ⟨by rfl, rfl⟩) (by assumption) ?_
            try simp only [Act.put, List.setIfInBounds_toArray, List.set_cons_zero, List.set_cons_succ]
            refine take_at (i := 10) (v := undef) rfl (by kernel_rfl) (by kernel_rfl) (by kernel_rfl) (fun _ _ _ h => h) (Or.inr ⟨by rfl, rfl⟩) (by assumption) ?_
            try simp only [Act.put, List.setIfInBounds_toArray, List.set_cons_zero, List.set_cons_succ]
            refine take_q (i := 11) (v := ?_) (fun w hS => ?_) ?_
            rotate_left
            ·(obtain ⟨nn, rfl⟩ := hS; go_simp; try with_reducible rfl)
            try simp only [Act.put, List.setIfInBounds_toArray, List.set_cons_zero, List.set_cons_succ]
            refine take_q (i := 12) (v := ?_) (fun w hS => ?_) ?_
            rotate_left
            ·(obtain ⟨nn, rfl⟩ := hS; go_simp; try with_reducible rfl)
            try simp only [Act.put, List.setIfInBounds_toArray, List.set_cons_zero, List.set_cons_succ]
            refine take_at (i := 13) (v := undef) rfl (by kernel_rfl) (by kernel_rfl) (by kernel_rfl) (fun _ _ _ h => h) (Or.inr ⟨by rfl, rfl⟩) (by assumption) ?_
            try simp only [Act.put, List.setIfInBounds_toArray, List.set_cons_zero, List.set_cons_succ]
            refine take_at (i := 14) (v := undef) rfl (by kernel_rfl) (by kernel_rfl) (by kernel_rfl) (fun _ _ _ h => h) (Or.inr ⟨by rfl, rfl⟩) (by assumption) ?_
            try simp only [Act.put, List.setIfInBounds_toArray, List.set_cons_zero, List.set_cons_succ]
            refine take_at (i := 15) (v := undef) rfl (by kernel_rfl) (by kernel_rfl) (by kernel_rfl) (fun _ _ _ h => h) (Or.inr ⟨by rfl, rfl⟩) (by assumption) ?_
            try simp only [Act.put, List.setIfInBounds_toArray, List.set_cons_zero, List.set_cons_succ]
            refine take_at (i := 16) (v := undef) rfl (by kernel_rfl) (by kernel_rfl) (by kernel_rfl) (fun _ _ _ h => h) (Or.inr ⟨by rfl, rfl⟩) (by assumption) ?_
            try simp only [Act.put, List.setIfInBounds_toArray, List.set_cons_zero, List.set_cons_succ]
            refine take_at (i := 17) (v := undef) rfl (by kernel_rfl) (by kernel_rfl) (by kernel_rfl) (fun _ _ _ h => h) (Or.inr ⟨by rfl, rfl⟩) (by assumption) ?_
            try simp only [Act.put, List.setIfInBounds_toArray, List.set_cons_zero, List.set_cons_succ]
            refine take_at (i := 18) (v := undef) rfl (by kernel_rfl) (by kernel_rfl) (by kernel_rfl) (fun _ _ _ h => h) (Or.inr ⟨by rfl, rfl⟩) (by assumption) ?_
            try simp only [Act.put, List.setIfInBounds_toArray, List.set_cons_zero, List.set_cons_succ]
            refine take_at (i := 19) (v := undef) rfl (by kernel_rfl) (by kernel_rfl) (by kernel_rfl) (fun _ _ _ h => h) (Or.inr ⟨by rfl, rfl⟩) (by assumption) ?_
            try simp only [Act.put, List.setIfInBounds_toArray, List.set_cons_zero, List.set_cons_succ]
            refine take_at (i := 20) (v := undef) rfl (by kernel_rfl) (by kernel_rfl) (by kernel_rfl) (fun _ _ _ h => h) (Or.inr ⟨by rfl, rfl⟩) (by assumption) ?_
            try simp only [Act.put, List.setIfInBounds_toArray, List.set_cons_zero, List.set_cons_succ]
            refine take_at (i := 21) (v := undef) rfl (by kernel_rfl) (by kernel_rfl) (by kernel_rfl) (fun _ _ _ h => h) (Or.inr ⟨by rfl, rfl⟩) (by assumption) ?_
            try simp only [Act.put, List.setIfInBounds_toArray, List.set_cons_zero, List.set_cons_succ]
            refine take_at (i := 22) (v := undef) rfl (by kernel_rfl) (by kernel_rfl) (by kernel_rfl) (fun _ _ _ h => h) (Or.inr ⟨by rfl, rfl⟩) (by assumption) ?_
            try simp only [Act.put, List.setIfInBounds_toArray, List.set_cons_zero, List.set_cons_succ]
            refine take_at (i := 23) (v := undef) rfl (by kernel_rfl) (by kernel_rfl) (by kernel_rfl) (fun _ _ _ h => h) (Or.inr ⟨by rfl, rfl⟩) (by assumption) ?_
            try simp only [Act.put, List.setIfInBounds_toArray, List.set_cons_zero, List.set_cons_succ]
            refine take_q (i := 24) (v := ?_) (fun w hS => ?_) ?_
            rotate_left
            ·(obtain ⟨nn, rfl⟩ := hS; go_simp; try with_reducible rfl)
            try simp only [Act.put, List.setIfInBounds_toArray, List.set_cons_zero, List.set_cons_succ]
            refine take_q (i := 25) (v := ?_) (fun w hS => ?_) ?_
            rotate_left
            ·(obtain ⟨nn, rfl⟩ := hS; go_simp; try with_reducible rfl)
            try simp only [Act.put, List.setIfInBounds_toArray, List.set_cons_zero, List.set_cons_succ]
            refine wpAnyH_done (by kernel_rfl) ?_ _
            rw [hdd] at hcs
            go_wp2_with fail
            refine hcs.mono ?_
            rintro e15 w15 ⟨rfl, gb15⟩
            have hb15 : Below w10.heap.size w10 w15 := hb5x.drew.trans (gb15.mono hb5x.drew.size)
            clear gb15
            go_wp2_with fail
            go_roundw
            case rel => exact ⟨i5 + 1, by go_num, by omega, hb15⟩
            case measure => simp [intOf]; omega
          ·have g1 : decide ((x.dims.length : Int) ≤ (i5 : Int)) = false := by simp; omega
           have g2 : ¬ (x.dims.length : Int) ≤ (i5 : Int) := by omega
           have g2b : ¬ x.dims.length ≤ i5 := hA5
           have g2c : (i5 : Int) < (x.dims.length : Int) := by omega
           have hA6 : i5 < x.dims.length := by omega
           by_cases hB5 : y.dims.length ≤ i5
           ·try (exfalso; omega)
            all_goals
             have g3 : decide ((y.dims.length : Int) ≤ (i5 : Int)) = true := by simp; omega
             have g4 : (y.dims.length : Int) ≤ (i5 : Int) := by omega
             have hdd : decide ((i5 : Int) ∈ dl) = true := decide_eq_true (hmem.2 (by rw [List.getElem?_eq_none hB5, List.getElem?_eq_getElem hA6]; simp))
             go_upto_region 38 with fail
             refine wp_region_held_drew (S := fun W => ∃ nn : Nat, W = wr.drewN nn) (by kernel_rfl) ⟨1, rfl⟩ (fun hHeld => ?_)
             refine take_q (i := 0) (v := ?_) (fun w hS => ?_) ?_
             rotate_left
             ·(obtain ⟨nn, rfl⟩ := hS; go_simp; try with_reducible rfl)
             try simp only [Act.put, List.setIfInBounds_toArray, List.set_cons_zero, List.set_cons_succ]
             refine take_q (i := 1) (v := ?_) (fun w hS => ?_) ?_
             rotate_left
             ·(obtain ⟨nn, rfl⟩ := hS; go_simp; try with_reducible rfl)
             try simp only [Act.put, List.setIfInBounds_toArray, List.set_cons_zero, List.set_cons_succ]
             refine take_q (i := 2) (v := ?_) (fun w hS => ?_) ?_
             rotate_left
             ·(obtain ⟨nn, rfl⟩ := hS; go_simp; try with_reducible rfl)
             try simp only [Act.put, List.setIfInBounds_toArray, List.set_cons_zero, List.set_cons_succ]
             refine take_q (i := 3) (v := ?_) (fun w hS => ?_) ?_
             rotate_left
             ·(obtain ⟨nn, rfl⟩ := hS; go_simp; try with_reducible rfl)
             try simp only [Act.put, List.setIfInBounds_toArray, List.set_cons_zero, List.set_cons_succ]
             refine take_q (i := 4) (v := ?_) (fun w hS => ?_) ?_
             rotate_left
             ·(obtain ⟨nn, rfl⟩ := hS; go_simp; try with_reducible rfl)
             try simp only [Act.put, List.setIfInBounds_toArray, List.set_cons_zero, List.set_cons_succ]
             refine take_q (i := 5) (v := ?_) (fun w hS => ?_) ?_
             rotate_left
             ·(obtain ⟨nn, rfl⟩ := hS; go_simp; try with_reducible rfl)
             try simp only [Act.put, List.setIfInBounds_toArray, List.set_cons_zero, List.set_cons_succ]
             refine take_q (i := 6) (v := ?_) (fun w hS => ?_) ?_
             rotate_left
             ·(obtain ⟨nn, rfl⟩ := hS; go_simp; try with_reducible rfl)
             try simp only [Act.put, List.setIfInBounds_toArray, List.set_cons_zero, List.set_cons_succ]
             refine take_q (i := 7) (v := ?_) (fun w hS => ?_) ?_
             rotate_left
             ·(obtain ⟨nn, rfl⟩ := hS; go_simp; try with_reducible rfl)
             try simp only [Act.put, List.setIfInBounds_toArray, List.set_cons_zero, List.set_cons_succ]
             refine take_q (i := 8) (v := ?_) (fun w hS => ?_) ?_
             rotate_left
             ·(obtain ⟨nn, rfl⟩ := hS; go_simp; try with_reducible rfl)
             try simp only [Act.put, List.setIfInBounds_toArray, List.set_cons_zero, List.set_cons_succ]
             refine take_q (i := 9) (v := ?_) (fun w hS => ?_) ?_
             rotate_left
             ·(obtain ⟨nn, rfl⟩ := hS; go_simp; try with_reducible rfl)
             try simp only [Act.put, List.setIfInBounds_toArray, List.set_cons_zero, List.set_cons_succ]
             refine take_q (i := 10) (v := ?_) (fun w hS => ?_) ?_
             rotate_left
             ·(obtain ⟨nn, rfl⟩ := hS; go_simp; try with_reducible rfl)
             try simp only [Act.put, List.setIfInBounds_toArray, List.set_cons_zero, List.set_cons_succ]
             refine take_q (i := 11) (v := ?_) (fun w hS => ?_) ?_
             rotate_left
             ·(obtain ⟨nn, rfl⟩ := hS; go_simp; try with_reducible rfl)
             try simp only [Act.put, List.setIfInBounds_toArray, List.set_cons_zero, List.set_cons_succ]
             refine take_q (i := 12) (v := ?_) (fun w hS => ?_) ?_
             rotate_left
             ·(obtain ⟨nn, rfl⟩ := hS; go_simp; try with_reducible rfl)
             try simp only [Act.put, List.setIfInBounds_toArray, List.set_cons_zero, List.set_cons_succ]
             refine take_at (i := 13) (v := undef) rfl (by kernel_rfl) (by kernel_rfl) (by kernel_rfl) (fun _ _ _ h => h) (Or.inr ⟨by rfl, rfl⟩) (by assumption) ?_
             try simp only [Act.put, List.setIfInBounds_toArray, List.set_cons_zero, List.set_cons_succ]
             refine take_at (i := 14) (v := undef) rfl (by kernel_rfl) (by kernel_rfl) (by kernel_rfl) (fun _ _ _ h => h) (Or.inr ⟨by rfl, rfl⟩) (by assumption) ?_
             try simp only [Act.put, List.setIfInBounds_toArray, List.set_cons_zero, List.set_cons_succ]
             refine take_at (i := 15) (v := undef) rfl (by kernel_rfl) (by kernel_rfl) (by kernel_rfl) (fun _ _ _ h => h) (Or.inr ⟨by rfl, rfl⟩) (by assumption) ?_
             try simp only [Act.put, List.setIfInBounds_toArray, List.set_cons_zero, List.set_cons_succ]
             refine take_at (i := 16) (v := undef) rfl (by kernel_rfl) (by kernel_rfl) (by kernel_rfl) (fun _ _ _ h => h) (Or.inr ⟨by rfl, rfl⟩) (by assumption) ?_
             try simp only [Act.put, List.setIfInBounds_toArray, List.set_cons_zero, List.set_cons_succ]
             refine take_at (i := 17) (v := undef) rfl (by kernel_rfl) (by kernel_rfl) (by kernel_rfl) (fun _ _ _ h => h) (Or.inr ⟨by rfl, rfl⟩) (by assumption) ?_
             try simp only [Act.put, List.setIfInBounds_toArray, List.set_cons_zero, List.set_cons_succ]
             refine take_at (i := 18) (v := undef) rfl (by kernel_rfl) (by kernel_rfl) (by kernel_rfl) (fun _ _ _ h => h) (Or.inr ⟨by rfl, rfl⟩) (by assumption) ?_
             try simp only [Act.put, List.setIfInBounds_toArray, List.set_cons_zero, List.set_cons_succ]
             refine take_at (i := 19) (v := undef) rfl (by kernel_rfl) (by kernel_rfl) (by kernel_rfl) (fun _ _ _ h => h) (Or.inr ⟨by rfl, rfl⟩) (by assumption) ?_
             try simp only [Act.put, List.setIfInBounds_toArray, List.set_cons_zero, List.set_cons_succ]
             refine take_at (i := 20) (v := undef) rfl (by kernel_rfl) (by kernel_rfl) (by kernel_rfl) (fun _ _ _ h => h) (Or.inr ⟨by rfl, rfl⟩) (by assumption) ?_
             try simp only [Act.put, List.setIfInBounds_toArray, List.set_cons_zero, List.set_cons_succ]
             refine take_at (i := 21) (v := undef) rfl (by kernel_rfl) (by kernel_rfl) (by kernel_rfl) (fun _ _ _ h => h) (Or.inr ⟨by rfl, rfl⟩) (by assumption) ?_
             try simp only [Act.put, List.setIfInBounds_toArray, List.set_cons_zero, List.set_cons_succ]
             refine take_at (i := 22) (v := undef) rfl (by kernel_rfl) (by kernel_rfl) (by kernel_rfl) (fun _ _ _ h => h) (Or.inr ⟨by rfl, rfl⟩) (by assumption) ?_
             try simp only [Act.put, List.setIfInBounds_toArray, List.set_cons_zero, List.set_cons_succ]
             refine take_at (i := 23) (v := undef) rfl (by kernel_rfl) (by kernel_rfl) (by kernel_rfl) (fun _ _ _ h => h) (Or.inr ⟨by rfl, rfl⟩) (by assumption) ?_
             try simp only [Act.put, List.setIfInBounds_toArray, List.set_cons_zero, List.set_cons_succ]
             refine take_q (i := 24) (v := ?_) (fun w hS => ?_) ?_
             rotate_left
             ·(obtain ⟨nn, rfl⟩ := hS; go_simp; try with_reducible rfl)
             try simp only [Act.put, List.setIfInBounds_toArray, List.set_cons_zero, List.set_cons_succ]
             refine take_q (i := 25) (v := ?_) (fun w hS => ?_) ?_
             rotate_left
             ·(obtain ⟨nn, rfl⟩ := hS; go_simp; try with_reducible rfl)
             try simp only [Act.put, List.setIfInBounds_toArray, List.set_cons_zero, List.set_cons_succ]
             refine wpAnyH_done (by kernel_rfl) ?_ _
             rw [hdd] at hcs
             go_wp2_with fail
             refine hcs.mono ?_
             rintro e15 w15 ⟨rfl, gb15⟩
             have hb15 : Below w10.heap.size w10 w15 := hb5x.drew.trans (gb15.mono hb5x.drew.size)
             clear gb15
             go_wp2_with fail
             go_roundw
             case rel => exact ⟨i5 + 1, by go_num, by omega, hb15⟩
             case measure => simp [intOf]; omega
           ·have g3 : decide ((y.dims.length : Int) ≤ (i5 : Int)) = false := by simp; omega
            have g4 : ¬ (y.dims.length : Int) ≤ (i5 : Int) := by omega
            have g4b : ¬ y.dims.length ≤ i5 := hB5
            have g4c : (i5 : Int) < (y.dims.length : Int) := by omega
            have hB6 : i5 < y.dims.length := by omega
            have hmem2 : (i5 : Int) ∈ dl ↔ x.dims[i5] ≠ y.dims[i5] := by rw [hmem, List.getElem?_eq_getElem hA6, List.getElem?_eq_getElem hB6]; simp
            obtain ⟨A', c', bX, oX, eX, hAX, hcX⟩ := HDX.out
            injection eX with e1 e2 e3
            subst e1 e3
            obtain ⟨A', c', bY, oY, eY, hAY, hcY⟩ := HDY.out
            injection eY with e1 e2 e3
            subst e1 e3
            obtain rfl := hAX (by omega)
            obtain rfl := hAY (by omega)
            obtain ⟨u0, u1, u2⟩ := hcX i5 hA6
            obtain ⟨v0, v1, v2⟩ := hcY i5 hB6
            have u0 := cell_keep hb5x u0
            have u1 := cell_keep hb5x u1
            have u2 := cell_keep hb5x u2
            have v0 := cell_keep hb5x v0
            have v1 := cell_keep hb5x v1
            have v2 := cell_keep hb5x v2
            clear hcX hcY hAX hAY hmem
            have HME := Lib.hid hmem2
            clear hmem2
            generalize x.dims[i5] = ux at *
            generalize y.dims[i5] = uy at *
            obtain ⟨a0, a1, a2⟩ := ux
            obtain ⟨d0, d1, d2⟩ := uy
            simp only at u0 u1 u2 v0 v1 v2
            obtain ⟨s0, hs0⟩ : ∃ s, (a0 == d0) = s := ⟨_, rfl⟩
            obtain ⟨s1, hs1⟩ : ∃ s, (a1 == d1) = s := ⟨_, rfl⟩
            obtain ⟨s2, hs2⟩ : ∃ s, (a2 == d2) = s := ⟨_, rfl⟩
            have HDD : Hid (decide ((i5 : Int) ∈ dl) = !(s0 && s1 && s2)) := Lib.hid (by rw [← hs0, ← hs1, ← hs2, Bool.eq_iff_iff]; rw [decide_eq_true_eq, HME.out]; simp; try omega)
            go_upto_region 38 with fail
            refine wp_region_held_drew (S := fun W => ∃ nn : Nat, W = wr.drewN nn) (by kernel_rfl) ⟨1, rfl⟩ (fun hHeld => ?_)
            refine take_q (i := 0) (v := ?_) (fun w hS => ?_) ?_
            rotate_left
            ·(obtain ⟨nn, rfl⟩ := hS; go_simp; try with_reducible rfl)
            try simp only [Act.put, List.setIfInBounds_toArray, List.set_cons_zero, List.set_cons_succ]
            refine take_q (i := 1) (v := ?_) (fun w hS => ?_) ?_
            rotate_left
            ·(obtain ⟨nn, rfl⟩ := hS; go_simp; try with_reducible rfl)
            try simp only [Act.put, List.setIfInBounds_toArray, List.set_cons_zero, List.set_cons_succ]
            refine take_q (i := 2) (v := ?_) (fun w hS => ?_) ?_
            rotate_left
            ·(obtain ⟨nn, rfl⟩ := hS; go_simp; try with_reducible rfl)
            try simp only [Act.put, List.setIfInBounds_toArray, List.set_cons_zero, List.set_cons_succ]
            refine take_q (i := 3) (v := ?_) (fun w hS => ?_) ?_
            rotate_left
            ·(obtain ⟨nn, rfl⟩ := hS; go_simp; try with_reducible rfl)
            try simp only [Act.put, List.setIfInBounds_toArray, List.set_cons_zero, List.set_cons_succ]
            refine take_q (i := 4) (v := ?_) (fun w hS => ?_) ?_
            rotate_left
            ·(obtain ⟨nn, rfl⟩ := hS; go_simp; try with_reducible rfl)
            try simp only [Act.put, List.setIfInBounds_toArray, List.set_cons_zero, List.set_cons_succ]
            refine take_q (i := 5) (v := ?_) (fun w hS => ?_) ?_
            rotate_left
            ·(obtain ⟨nn, rfl⟩ := hS; go_simp; try with_reducible rfl)
            try simp only [Act.put, List.setIfInBounds_toArray, List.set_cons_zero, List.set_cons_succ]
            refine take_q (i := 6) (v := ?_) (fun w hS => ?_) ?_
            rotate_left
            ·(obtain ⟨nn, rfl⟩ := hS; go_simp; try with_reducible rfl)
            try simp only [Act.put, List.setIfInBounds_toArray, List.set_cons_zero, List.set_cons_succ]
            refine take_q (i := 7) (v := ?_) (fun w hS => ?_) ?_
            rotate_left
            ·(obtain ⟨nn, rfl⟩ := hS; go_simp; try with_reducible rfl)
            try simp only [Act.put, List.setIfInBounds_toArray, List.set_cons_zero, List.set_cons_succ]
            refine take_q (i := 8) (v := ?_) (fun w hS => ?_) ?_
            rotate_left
            ·(obtain ⟨nn, rfl⟩ := hS; go_simp; try with_reducible rfl)
            try simp only [Act.put, List.setIfInBounds_toArray, List.set_cons_zero, List.set_cons_succ]
            refine take_q (i := 9) (v := ?_) (fun w hS => ?_) ?_
            rotate_left
            ·(obtain ⟨nn, rfl⟩ := hS; go_simp; try with_reducible rfl)
            try simp only [Act.put, List.setIfInBounds_toArray, List.set_cons_zero, List.set_cons_succ]
            refine take_q (i := 10) (v := ?_) (fun w hS => ?_) ?_
            rotate_left
            ·(obtain ⟨nn, rfl⟩ := hS; go_simp; try with_reducible rfl)
            try simp only [Act.put, List.setIfInBounds_toArray, List.set_cons_zero, List.set_cons_succ]
            refine take_q (i := 11) (v := ?_) (fun w hS => ?_) ?_
            rotate_left
            ·(obtain ⟨nn, rfl⟩ := hS; go_simp; try with_reducible rfl)
            try simp only [Act.put, List.setIfInBounds_toArray, List.set_cons_zero, List.set_cons_succ]
            refine take_q (i := 12) (v := ?_) (fun w hS => ?_) ?_
            rotate_left
            ·(obtain ⟨nn, rfl⟩ := hS; go_simp; try with_reducible rfl)
            try simp only [Act.put, List.setIfInBounds_toArray, List.set_cons_zero, List.set_cons_succ]
            refine take_q (i := 13) (v := ?_) (fun w hS => ?_) ?_
            rotate_left
            ·(obtain ⟨nn, rfl⟩ := hS; go_simp; try with_reducible rfl)
            try simp only [Act.put, List.setIfInBounds_toArray, List.set_cons_zero, List.set_cons_succ]
            refine take_q (i := 14) (v := ?_) (fun w hS => ?_) ?_
            rotate_left
            ·(obtain ⟨nn, rfl⟩ := hS; go_simp; try with_reducible rfl)
            try simp only [Act.put, List.setIfInBounds_toArray, List.set_cons_zero, List.set_cons_succ]
            refine take_q (i := 15) (v := ?_) (fun w hS => ?_) ?_
            rotate_left
            ·(obtain ⟨nn, rfl⟩ := hS; go_simp; try with_reducible rfl)
            try simp only [Act.put, List.setIfInBounds_toArray, List.set_cons_zero, List.set_cons_succ]
            refine take_q (i := 16) (v := ?_) (fun w hS => ?_) ?_
            rotate_left
            ·(obtain ⟨nn, rfl⟩ := hS; go_simp; try with_reducible rfl)
            try simp only [Act.put, List.setIfInBounds_toArray, List.set_cons_zero, List.set_cons_succ]
            refine take_q (i := 17) (v := ?_) (fun w hS => ?_) ?_
            rotate_left
            ·(obtain ⟨nn, rfl⟩ := hS; go_simp; try with_reducible rfl)
            try simp only [Act.put, List.setIfInBounds_toArray, List.set_cons_zero, List.set_cons_succ]
            refine take_q (i := 18) (v := ?_) (fun w hS => ?_) ?_
            rotate_left
            ·(obtain ⟨nn, rfl⟩ := hS; go_simp; try with_reducible rfl)
            try simp only [Act.put, List.setIfInBounds_toArray, List.set_cons_zero, List.set_cons_succ]
            refine take_q (i := 19) (v := ?_) (fun w hS => ?_) ?_
            rotate_left
            ·(obtain ⟨nn, rfl⟩ := hS; go_simp; try with_reducible rfl)
            try simp only [Act.put, List.setIfInBounds_toArray, List.set_cons_zero, List.set_cons_succ]
            refine take_q (i := 20) (v := ?_) (fun w hS => ?_) ?_
            rotate_left
            ·(obtain ⟨nn, rfl⟩ := hS; go_simp; try with_reducible rfl)
            try simp only [Act.put, List.setIfInBounds_toArray, List.set_cons_zero, List.set_cons_succ]
            refine take_q (i := 21) (v := ?_) (fun w hS => ?_) ?_
            rotate_left
            ·(obtain ⟨nn, rfl⟩ := hS; go_simp; try with_reducible rfl)
            try simp only [Act.put, List.setIfInBounds_toArray, List.set_cons_zero, List.set_cons_succ]
            refine take_q (i := 22) (v := ?_) (fun w hS => ?_) ?_
            rotate_left
            ·(obtain ⟨nn, rfl⟩ := hS; go_simp; try with_reducible rfl)
            try simp only [Act.put, List.setIfInBounds_toArray, List.set_cons_zero, List.set_cons_succ]
            refine take_at (i := 23) (v := .bool (!(s0 && s1 && s2))) rfl (by kernel_rfl) (by kernel_rfl) (by kernel_rfl) (fun _ _ _ h => h) (Or.inl ⟨by rfl, ?_⟩) (by assumption) ?_
            ·(rintro w ⟨nn, rfl⟩; go_simp; (cases s0 <;> cases s1 <;> cases s2 <;> rfl))
            try simp only [Act.put, List.setIfInBounds_toArray, List.set_cons_zero, List.set_cons_succ]
            refine take_q (i := 24) (v := ?_) (fun w hS => ?_) ?_
            rotate_left
            ·(obtain ⟨nn, rfl⟩ := hS; go_simp; try with_reducible rfl)
            try simp only [Act.put, List.setIfInBounds_toArray, List.set_cons_zero, List.set_cons_succ]
            refine take_q (i := 25) (v := ?_) (fun w hS => ?_) ?_
            rotate_left
            ·(obtain ⟨nn, rfl⟩ := hS; go_simp; try with_reducible rfl)
            try simp only [Act.put, List.setIfInBounds_toArray, List.set_cons_zero, List.set_cons_succ]
            refine wpAnyH_done (by kernel_rfl) ?_ _
            clear hs0 hs1 hs2 HME
            cases s0 <;> cases s1 <;> cases s2
            all_goals
             have hdd := HDD.out
             simp only [Bool.true_and, Bool.false_and, Bool.and_true, Bool.and_false, Bool.not_true, Bool.not_false] at hdd
             rw [hdd] at hcs
             go_wp2_with fail
             refine hcs.mono ?_
             rintro e15 w15 ⟨rfl, gb15⟩
             have hb15 : Below w10.heap.size w10 w15 := hb5x.drew.trans (gb15.mono hb5x.drew.size)
             clear gb15
             go_wp2_with fail
             go_roundw
             case rel => exact ⟨i5 + 1, by go_num, by omega, hb15⟩
             case measure => simp [intOf]; omega
         ·first
           | (have kl7 : ¬ (i5 : Int) < (y.dims.length : Int) := by omega)
           | skip
          first
           | (have kl8 : ¬ (i5 : Int) < (x.dims.length : Int) := by omega)
           | skip
          go_wp2_with fail
          go_ret
          exact ⟨rfl, hbw.trans (hb5x.mono hbw.size)⟩
end Go.Proofs.Ythfpjeeedhahbaa
