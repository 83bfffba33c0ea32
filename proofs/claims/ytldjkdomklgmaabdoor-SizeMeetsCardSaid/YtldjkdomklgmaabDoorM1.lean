/- The law SizeMeets: the walk. -/
import Derived.Test.YtldjkdomklgmaabDoorM0
import Derived.Test.YtldjkdomklgmaabDoorR0
import Derived.Test.YtldjkdomklgmaabDoorT1
import Derived.Test.YtldjkdomklgmaabDoorE0
import Derived.Test.YtldjkdomklgmaabDoorC2
import Derived.Test.YtldjkdomklgmaabDoorC1
import Derived.Deep.RegionHeld3
import Derived.Deep.AppendLies
import Derived.Deep.DeepCutAuto
import Derived.Deep.CutRange
namespace Go.Proofs.YtldjkdomklgmaabDoor
set_option linter.unusedVariables false
set_option linter.unusedSimpArgs false
open Go.RowKit

def TruesM (w : World) (e : Ending) (w' : World) : Prop := e = .returned (.bool true) ∧ Below w.heap.size w w'
def AliveM : Prop := ∀ W : World, Env W → Calls Tryd.prog 4 #[] W fun e w' => e = .returned (.bool true) ∧ Below W.heap.size W w'
theorem infoD : (Tryd.prog.info? 24).map (fun i => (i.zero, i.size, i.bytes)) = some (some (.agg #[.int .i64 0, .int .i64 0, .int .i64 0]), 3, 24) := by kernel_rfl

theorem cellsD_after {w W : World} {b off : Nat} {ds : List D3} (hb : Below w.heap.size w W) (h : cellsD w b off ds) (hlt : 0 < ds.length → b < w.heap.size) : cellsD W b off ds := fun i hi => by
  obtain ⟨h0, h1, h2⟩ := h i hi
  have hl := hlt (by omega)
  exact ⟨(hb.cell (p := ⟨b, off + i * 3, none⟩) hl).trans h0, (hb.cell (p := ⟨b, off + i * 3 + 1, none⟩) hl).trans h1, (hb.cell (p := ⟨b, off + i * 3 + 2, none⟩) hl).trans h2⟩
theorem add_none' (b o k : Nat) : (⟨b, o, none⟩ : Addr).add k = ⟨b, o + k, none⟩ := by unfold Addr.add; split <;> simp_all
theorem news_dims {w W : World} {b off : Nat} {ds : List D3} (hb : Below w.heap.size w W) (h : cellsD w b off ds) (hlt : 0 < ds.length → b < w.heap.size) : ∀ j u, (cells3 ds)[j]? = some u → W.cell? ((⟨b, off, none⟩ : Addr).add j) = some u := by
  intro j u hj
  have hjl : j < ds.length * 3 := by rw [← cells3_length]; exact (List.getElem?_eq_some_iff.1 hj).1
  have hi : j / 3 < ds.length := by omega
  obtain ⟨c0, c1, c2⟩ := cellsD_after hb h hlt (j / 3) hi
  obtain ⟨d0, d1, d2⟩ := cells3_at ds (j / 3) hi
  rw [add_none']
  have hm : j % 3 = 0 ∨ j % 3 = 1 ∨ j % 3 = 2 := by omega
  rcases hm with e | e | e
  · have ej : j = j / 3 * 3 := by omega
    rw [ej] at hj ⊢; rw [c0, ← d0]; exact hj
  · have ej : j = j / 3 * 3 + 1 := by omega
    rw [ej] at hj ⊢; rw [← Nat.add_assoc, c1, ← d1]; exact hj
  · have ej : j = j / 3 * 3 + 2 := by omega
    rw [ej] at hj ⊢; rw [← Nat.add_assoc, c2, ← d2]; exact hj
theorem mid_alloc (w0 w : World) (hb : Below w0.heap.size w0 w) (cs : Array Value) (t : TypeId) : ∃ W, w.alloc (.cells cs t) = W ∧ Below w0.heap.size w0 W ∧ (∀ g t' cs', Lies w g t' cs' → Lies W g t' cs') ∧ Lies W w.heap.size t cs ∧ W.heap.size = w.heap.size + 1 :=
  ⟨_, rfl, hb.alloc hb.size _, fun _ _ _ h => h.alloc _, Lies.made _ _ _, by simp⟩
theorem own_empty (u : World) (base k : Nat) (hk : k = u.heap.size) (hb : base ≤ k) : (u.alloc (.cells #[] 24)).ownsRow base 24 3 (.slice (some ⟨k, 0, none⟩) 0 0) 0 [] := by
  subst hk
  exact World.ownsRow_made (base := base) (e := 24) (size := 3) u #[] 0 hb (by decide) rfl
theorem lies_grown {W W' : World} {base : Nat} {e : TypeId} {size n : Nat} {v : Value} {xs : List Value} {g : Nat} {t : TypeId} {cs : Array Value} (ho : W.ownsRow base e size v n xs) (hl : Lies W g t cs) (hne : e ≠ t) (hg : W.grownBy W' v.ownBlock) : Lies W' g t cs :=
  (hg.block g hl.lt (fun h => own_ne ho hl hne h.symm)).trans hl
theorem news_lies {W : World} {g : Nat} {x y z : Int} (L : Lies W g 24 #[.int .i64 x, .int .i64 y, .int .i64 z]) : ∀ j u, [.int .i64 x, .int .i64 y, .int .i64 z][j]? = some u → W.cell? ((⟨g, 0, none⟩ : Addr).add j) = some u := by
  intro j u hj
  rw [add_none', Nat.zero_add, L.cell]
  rw [← hj]
  simp
theorem lies3 {W : World} {g : Nat} {x y z : Int} (L : Lies W g 24 #[.int .i64 x, .int .i64 y, .int .i64 z]) : W.cell? ⟨g, 0, none⟩ = some (.int .i64 x) ∧ W.cell? ⟨g, 1, none⟩ = some (.int .i64 y) ∧ W.cell? ⟨g, 2, none⟩ = some (.int .i64 z) := ⟨L.cell 0, L.cell 1, L.cell 2⟩
theorem own_cells {W : World} {base n g cap : Nat} {xs : List D3} (hn : xs.length = n) (ho : W.ownsRow base 24 3 (.slice (some ⟨g, 0, none⟩) n cap) n (cells3 xs)) : cellsD W g 0 xs := fun i hi => by
  obtain ⟨A, c, g', hv, hc⟩ := own_form ho
  obtain ⟨hA, cur, hL, hcur⟩ := hc (by omega)
  rw [hA] at hv
  simp only [Value.slice.injEq, Option.some.injEq, Addr.mk.injEq, and_true, true_and] at hv
  obtain ⟨rfl, -⟩ := hv
  obtain ⟨d0, d1, d2⟩ := cells3_at xs i hi
  have e0 := hL.cell (i * 3)
  have e1 := hL.cell (i * 3 + 1)
  have e2 := hL.cell (i * 3 + 2)
  rw [hcur _ (by omega)] at e0 e1 e2
  refine ⟨?_, ?_, ?_⟩
  · rw [Nat.zero_add]; exact e0.trans d0
  · rw [Nat.zero_add]; exact e1.trans d1
  · rw [Nat.zero_add]; exact e2.trans d2

set_option maxHeartbeats 40000000 in
set_option maxRecDepth 100000 in
theorem meets_go (HAL : AliveM) (b off : Nat) (ds : List D3) (c : Nat) (mn ml mu n tu : Int) (w : World) (he : Env w) (h0 : 0 < ds.length) (hl : ds.length < 20) (hc : cellsD w b off ds) (hm : okD mn ml mu = true) (t0 : 0 ≤ tu) (t1 : tu ≤ 255) :
    Calls Tryd.prog 3 #[.slice (some ⟨b, off, none⟩) ds.length c, .agg #[.int .i64 mn, .int .i64 ml, .int .i64 mu], .int .i64 n, .int .u8 tu] w (TruesM w) := by
  have hlen0 : (0 : Int) < (ds.length : Int) := by omega
  have hlen : ((ds.length : Nat) : Int) < 20 := by omega
  have hne : ((ds.length : Int) == 0) = false := by rw [beq_eq_false_iff_ne]; omega
  have hbl : b < w.heap.size := World.block_lt_of_cell? w _ (hc 0 h0).1
  obtain ⟨i0, hi, hz0, hz1, hz2⟩ := info_parts infoD
  have HE := Lib.hid (fun W (hW : Below w.heap.size w W) => he.after hW)
  have HM := Lib.hid (fun W => hm ▸ rDim_any mn ml mu W)
  have Hm := Lib.hid hm
  have HC := Lib.hid hc
  obtain ⟨T, rfl⟩ := Int.eq_ofNat_of_zero_le t0
  have HALh := Lib.hid HAL
  clear he hc hm HAL t0
  have m0 : 0 ≤ (T : Int) % (ds.length : Int) := Int.emod_nonneg _ (by omega)
  have m1 : (T : Int) % (ds.length : Int) < (ds.length : Int) := Int.emod_lt_of_pos _ (by omega)
  go_enter Tryd.func3, Tryd.ntmps3
  go_wp2_with fail
  refine (HALh.out _ (HE.out _ (by (repeat' (first | (with_reducible exact Below.refl _ _) | (with_reducible assumption) | (with_reducible refine Below.alloc ?_ ?_ _) | (with_reducible refine Below.setCell ?_ ?_ _) | (with_reducible refine below_row ?_ ?_ _) | (with_reducible refine Below.drew ?_) | (with_reducible refine below_drewN ?_ _) | (with_reducible refine Below.trans ?_ (Below.mono (by assumption) ?_)) | (first | exact Nat.le_refl _ | omega | (simp; done) | (simp; omega))))))).mono ?_
  rintro _ w1 ⟨rfl, hb1⟩
  have s1 := hb1.size; try simp only [World.size_alloc, World.size_setCell, World.size_drew, setRow_size] at s1
  have HP1 := Lib.hid ((Lies.made w 24 #[.int .i64 mn, .int .i64 ml, .int .i64 mu]).after hb1)
  have q0 := HP1.out.cell 0
  have q1 := HP1.out.cell 1
  have q2 := HP1.out.cell 2
  have z1 := HP1.out.lt
  have B1 : Below w.heap.size w w1 := by (repeat' (first | (with_reducible exact Below.refl _ _) | (with_reducible assumption) | (with_reducible refine Below.alloc ?_ ?_ _) | (with_reducible refine Below.setCell ?_ ?_ _) | (with_reducible refine below_row ?_ ?_ _) | (with_reducible refine Below.drew ?_) | (with_reducible refine below_drewN ?_ _) | (with_reducible refine Below.trans ?_ (Below.mono (by assumption) ?_)) | (first | exact Nat.le_refl _ | omega | (simp; done) | (simp; omega))))
  go_wp2_with fail
  refine (HM.out _).mono ?_
  rintro _ w2 ⟨rfl, hb2⟩
  have s2 := hb2.size; try simp only [World.size_alloc, World.size_setCell, World.size_drew, setRow_size] at s2
  have HP2 := Lib.hid (HP1.out.after hb2)
  have B2 : Below w.heap.size w w2 := B1.trans (hb2.mono B1.size)
  clear q0 q1 q2 z1 HP1 B1 hb1 hb2
  have hs2 : w.heap.size + 1 ≤ w2.heap.size := by have := HP2.out.lt; omega
  go_wp2_with fail
  go_loopw [10, 11, 41] (fun cm v i wr => ∃ k : Nat, k ≤ ds.length ∧ i = .int .i64 k ∧ cm = .bool (commonB n (ds.take k)) ∧ wr.ownsRow (w.heap.size + 1) 24 3 v k (cells3 (rotD ds T k)) ∧ Hid (∀ d ∈ ds.take k, okD d.1 d.2.1 d.2.2 = true) ∧ Hid (Lies wr w.heap.size 24 #[.int .i64 mn, .int .i64 ml, .int .i64 mu]) ∧ Below w.heap.size w wr) (fun _ _ i _ => ds.length - (intOf i).toNat)
  case atStart => exact ⟨0, by omega, rfl, rfl, World.ownsRow_nil _ _ _ _, Lib.hid (by simp), HP2, B2⟩
  case round =>
    clear HP2 B2 hs2
    obtain ⟨k, hk, rfl, rfl, hown, HV, HP, BR⟩ := hrel
    have HO := Lib.hid hown
    have sR := BR.size
    clear hown
    by_cases hlt : k < ds.length
    · obtain ⟨j, hj⟩ : ∃ j : Nat, j = (k + T) % ds.length := ⟨_, rfl⟩
      have hjl : j < ds.length := by rw [hj]; exact Nat.mod_lt _ h0
      have hji : ((k : Int) + (T : Int) % (ds.length : Int)) % (ds.length : Int) = (j : Int) := by rw [hj]; push_cast; rw [Int.add_emod_emod]
      have HJ := Lib.hid hj
      clear hj
      obtain ⟨q0, q1, q2⟩ := HC.out k hlt
      have p0 := (BR.cell (p := ⟨b, off + k * 3, none⟩) hbl).trans q0
      have p1 := (BR.cell (p := ⟨b, off + k * 3 + 1, none⟩) hbl).trans q1
      have p2 := (BR.cell (p := ⟨b, off + k * 3 + 2, none⟩) hbl).trans q2
      clear q0 q1 q2
      have ht : ds.take (k + 1) = ds.take k ++ [ds[k]] := by rw [List.take_succ_eq_append_getElem hlt]
      have hcm := commonB_snoc n (ds.take k) ds[k]
      rw [← ht] at hcm
      have HT := Lib.hid ht
      have HCM := Lib.hid hcm
      clear ht hcm
      obtain ⟨d, hd⟩ : ∃ d, ds[k] = d := ⟨_, rfl⟩
      rw [hd] at p0 p1 p2
      obtain ⟨dn, dl, du⟩ := d
      simp only at p0 p1 p2
      have Hd := Lib.hid hd
      clear hd
      by_cases hok : okD dn dl du = true
      · have HK := Lib.hid (fun W => hok ▸ rDim_any dn dl du W)
        have HOK := Lib.hid hok
        clear hok
        go_wp2_with fail
        refine (HK.out _).mono ?_
        rintro _ w3 ⟨rfl, hb3⟩
        have s3 := hb3.size; try simp only [World.size_alloc, World.size_setCell, World.size_drew, setRow_size] at s3
        have L3 := (Lies.made wr 24 #[.int .i64 dn, .int .i64 dl, .int .i64 du]).after hb3
        have z3 := L3.lt
        have c0 := L3.cell 0
        have c1 := L3.cell 1
        have c2 := L3.cell 2
        clear L3
        have B3 : Below w.heap.size w w3 := BR.trans (Below.trans (by (repeat' (first | (with_reducible exact Below.refl _ _) | (with_reducible assumption) | (with_reducible refine Below.alloc ?_ ?_ _) | (with_reducible refine Below.setCell ?_ ?_ _) | (with_reducible refine below_row ?_ ?_ _) | (with_reducible refine Below.drew ?_) | (with_reducible refine below_drewN ?_ _) | (with_reducible refine Below.trans ?_ (Below.mono (by assumption) ?_)) | (first | exact Nat.le_refl _ | omega | (simp; done) | (simp; omega))))) (hb3.mono (by simp; omega)))
        have HW := Lib.hid (own_after HO.out (Below.trans ((Below.refl wr.heap.size wr).alloc (Nat.le_refl _) _) (hb3.mono (by simp))))
        have HP3 := Lib.hid ((HP.out.alloc (.cells #[.int .i64 dn, .int .i64 dl, .int .i64 du] 24)).after hb3)
        obtain ⟨q0, q1, q2⟩ := HC.out j hjl
        have r0 := (B3.cell (p := ⟨b, off + j * 3, none⟩) hbl).trans q0
        have r1 := (B3.cell (p := ⟨b, off + j * 3 + 1, none⟩) hbl).trans q1
        have r2 := (B3.cell (p := ⟨b, off + j * 3 + 2, none⟩) hbl).trans q2
        clear q0 q1 q2 p0 p1 p2
        obtain ⟨x, hx⟩ : ∃ x, ds[j] = x := ⟨_, rfl⟩
        rw [hx] at r0 r1 r2
        obtain ⟨jn, jl, ju⟩ := x
        simp only at r0 r1 r2
        have HX := Lib.hid hx
        have z3' : w.heap.size + 1 ≤ w3.heap.size := by have := HP3.out.lt; omega
        clear hx HO HK hb3 BR sR
        have hcs : (commonB n (ds.take k) = true ∧ dl ≤ n ∧ n ≤ du) ∨ (commonB n (ds.take k) = true ∧ dl ≤ n ∧ du < n) ∨ (commonB n (ds.take k) = true ∧ n < dl) ∨ commonB n (ds.take k) = false := by
          cases commonB n (ds.take k)
          · exact .inr (.inr (.inr rfl))
          · by_cases e1 : n < dl
            · exact .inr (.inr (.inl ⟨rfl, e1⟩))
            · by_cases e2 : du < n
              · exact .inr (.inl ⟨rfl, by omega, e2⟩)
              · exact .inl ⟨rfl, by omega, by omega⟩
        obtain ⟨C, hC⟩ : ∃ C, commonB n (ds.take k) = C := ⟨_, rfl⟩
        have hnew : commonB n (ds.take (k + 1)) = (C && decide (dl ≤ n ∧ n ≤ du)) := by rw [HCM.out, hC, Hd.out]
        rw [hC] at hcs
        have HN := Lib.hid hnew
        rw [hC]
        clear hnew HCM hC
        rcases hcs with ⟨rfl, f1, f2⟩ | ⟨rfl, f1, f2⟩ | ⟨rfl, f1⟩ | rfl
        case' inl => have d1 : decide (dl ≤ n) = true := decide_eq_true f1
        case' inl => have d2 : decide (n ≤ du) = true := decide_eq_true f2
        case' inr.inl => have d1 : decide (dl ≤ n) = true := decide_eq_true f1
        case' inr.inl => have d2 : decide (n ≤ du) = false := decide_eq_false (by omega)
        case' inr.inr.inl => have d1 : decide (dl ≤ n) = false := decide_eq_false (by omega)
        all_goals
          go_wp2_with (at_builtin; refine wpList_append_own _ rfl _ _ 22 rfl (w.heap.size + 1) 24 i0 (.agg #[.int .i64 0, .int .i64 0, .int .i64 0]) 3 24 Tryd.underlying22 hi hz0 hz1 hz2 rfl (by decide) _ _ _ rfl (HW.out.alloc _) ⟨w3.heap.size, 0, none⟩ 1 1 [.int .i64 jn, .int .i64 jl, .int .i64 ju] rfl rfl (World.news_of_block (cs := #[.int .i64 jn, .int .i64 jl, .int .i64 ju]) (t := 24) (fr := (0, 0)) (Lies.new (by simp))) (by simp [Value.oneCell']) (by unfold maxLen; omega) (by omega) (by simp; omega) ?_; intro v' w4 hown4 hgrow4 _)
          go_roundw
          case rel =>
            refine ⟨k + 1, by omega, by go_num, ?_, ?_, ?_, ?_, ?_⟩
            · rw [HN.out]; simp [*]
            · rw [rotD_snoc, cells3_snoc, ← HJ.out, List.getD_eq_getElem?_getD, List.getElem?_eq_getElem hjl, HX.out]; exact hown4
            · refine Lib.hid ?_
              rw [HT.out]; intro d hd
              rcases List.mem_append.1 hd with hd | hd
              · exact HV.out d hd
              · rw [Hd.out] at hd; simp only [List.mem_singleton] at hd; subst hd; exact HOK.out
            · exact Lib.hid ((HP3.out.alloc _).turned hgrow4 (base := w.heap.size + 1) (by omega) (fun r e => (HW.out.lt r e).1))
            · exact Below.grown (B3.alloc (by omega) _) hgrow4 (by simp; omega) (fun r e => Nat.le_trans (by omega) (HW.out.lt r e).1)
          case measure => simp [intOf]; omega
      · have hok' : okD dn dl du = false := by simpa using hok
        have HK := Lib.hid (fun W => hok' ▸ rDim_any dn dl du W)
        clear hok hok'
        go_wp2_with fail
        refine (HK.out _).mono ?_
        rintro _ w3 ⟨rfl, hb3⟩
        have s3 := hb3.size; try simp only [World.size_alloc, World.size_setCell, World.size_drew, setRow_size] at s3
        go_wp2
        go_ret
        exact ⟨rfl, BR.trans (Below.trans (by (repeat' (first | (with_reducible exact Below.refl _ _) | (with_reducible assumption) | (with_reducible refine Below.alloc ?_ ?_ _) | (with_reducible refine Below.setCell ?_ ?_ _) | (with_reducible refine below_row ?_ ?_ _) | (with_reducible refine Below.drew ?_) | (with_reducible refine below_drewN ?_ _) | (with_reducible refine Below.trans ?_ (Below.mono (by assumption) ?_)) | (first | exact Nat.le_refl _ | omega | (simp; done) | (simp; omega))))) (hb3.mono (by simp; omega)))⟩
    · have hke : k = ds.length := by omega
      subst hke
      obtain ⟨A', c', gt, hvt, hown'⟩ := own_form HO.out
      obtain ⟨rfl, cur, hLt, hcur⟩ := hown' h0
      subst hvt
      have HT2 : Hid (cellsD wr gt 0 (rotD ds T ds.length)) := Lib.hid (fun i hi => by
        have hil : i < ds.length := by simpa [rotD] using hi
        obtain ⟨d0, d1, d2⟩ := cells3_at _ i hi
        have e0 := hLt.cell (i * 3)
        have e1 := hLt.cell (i * 3 + 1)
        have e2 := hLt.cell (i * 3 + 2)
        rw [hcur _ (by omega)] at e0 e1 e2
        refine ⟨?_, ?_, ?_⟩
        · rw [Nat.zero_add]; exact e0.trans d0
        · rw [Nat.zero_add]; exact e1.trans d1
        · rw [Nat.zero_add]; exact e2.trans d2)
      have hgt := hLt.lt
      have hval : ∀ d ∈ ds, okD d.1 d.2.1 d.2.2 = true := by have := HV.out; rwa [List.take_length] at this
      have hds : ds ≠ [] := by intro h; rw [h] at h0; simp at h0
      have hC : commonB n (ds.take ds.length) = decide ((meetS 0 1000000000 ds).1 ≤ n ∧ n ≤ (meetS 0 1000000000 ds).2) := by
        rw [List.take_length, Bool.eq_iff_iff, decide_eq_true_eq]
        exact common_meet hds hval
      have hR : meetR (rotD ds T ds.length) = meetR ds := by
        have hmem := fun d => rotD_mem ds T h0 d
        have hl2 : (rotD ds T ds.length).length = ds.length := by simp [rotD]
        rw [meetR_go (fun h => by rw [h] at hl2; simp at hl2; omega) (by omega) (fun d hd => hval d ((hmem d).1 hd)), meetR_go hds (by omega) hval, meetS_same hmem]
      have hvm : ∀ d ∈ ds ++ [(mn, ml, mu)], okD d.1 d.2.1 d.2.2 = true := by
        intro d hd
        rcases List.mem_append.1 hd with hd | hd
        · exact hval d hd
        · simp only [List.mem_singleton] at hd; subst hd; exact Hm.out
      have hM2 := meetR_go (ds := ds ++ [(mn, ml, mu)]) (by simp) (by simp; omega) hvm
      rw [meetS_snoc] at hM2
      have hM1 := meetR_go hds (by omega) hval
      obtain ⟨⟨m1, m2⟩, hmm⟩ : ∃ m, meetS 0 1000000000 ds = m := ⟨_, rfl⟩
      rw [hmm] at hM1 hM2 hC
      simp only at hM1 hM2 hC
      obtain ⟨-, -, -, hmlu, -⟩ := okD_iff.1 Hm.out
      have K1 := Lib.hid (fun W (hW : Below wr.heap.size wr W) => Meet_any (some ⟨b, off, none⟩) b off ds c W (fun _ => rfl) (cellsD_after (w := w) (BR.trans (hW.mono sR)) HC.out (fun _ => hbl)))
      have K2 : Hid (∀ W, Below wr.heap.size wr W → Calls Tryd.prog 6 #[.slice (some ⟨gt, 0, none⟩) ds.length c'] W (GivesS (meetR ds) W)) := Lib.hid (fun W hW => by
        have h := Meet_any (some ⟨gt, 0, none⟩) gt 0 (rotD ds T ds.length) c' W (fun _ => rfl) (cellsD_after hW HT2.out (fun _ => hgt))
        rw [hR, show (rotD ds T ds.length).length = ds.length by simp [rotD]] at h
        exact h)
      have K3 : Hid (∀ (g cap : Nat) W, cellsD W g 0 (ds ++ [(mn, ml, mu)]) → Calls Tryd.prog 6 #[.slice (some ⟨g, 0, none⟩) (ds.length + 1) cap] W (GivesS (meetR (ds ++ [(mn, ml, mu)])) W)) := Lib.hid (fun g cap W hcW => by
        have h := Meet_any (some ⟨g, 0, none⟩) g 0 (ds ++ [(mn, ml, mu)]) cap W (fun _ => rfl) hcW
        rw [show (ds ++ [(mn, ml, mu)]).length = ds.length + 1 by simp] at h
        exact h)
      have HM1 := Lib.hid hM1
      have HM2 := Lib.hid hM2
      have HCC := Lib.hid hC
      obtain ⟨⟨⟨x1, x2⟩, xe⟩, hx⟩ : ∃ r, meetR ds = r := ⟨_, rfl⟩
      obtain ⟨⟨⟨u1, u2⟩, ue⟩, hu⟩ : ∃ r, meetR (ds ++ [(mn, ml, mu)]) = r := ⟨_, rfl⟩
      rw [hx] at K1 K2
      rw [hu] at K3
      have HX0 := Lib.hid hx
      have HU0 := Lib.hid hu
      obtain ⟨C, hCe⟩ : ∃ C, commonB n (ds.take ds.length) = C := ⟨_, rfl⟩
      have HCE := Lib.hid hCe
      rw [hCe]
      clear hM1 hM2 hC hx hu hCe hR hvm hval hds hmm hown' hcur hLt HO HV HT2
      go_wp2_with fail
      refine (K1.out _ (by (repeat' (first | (with_reducible exact Below.refl _ _) | (with_reducible assumption) | (with_reducible refine Below.alloc ?_ ?_ _) | (with_reducible refine Below.setCell ?_ ?_ _) | (with_reducible refine below_row ?_ ?_ _) | (with_reducible refine Below.drew ?_) | (with_reducible refine below_drewN ?_ _) | (with_reducible refine Below.trans ?_ (Below.mono (by assumption) ?_)) | (first | exact Nat.le_refl _ | omega | (simp; done) | (simp; omega)))))).mono ?_
      rintro _ w6 ⟨rfl, hb6⟩
      have s6 := hb6.size; try simp only [World.size_alloc, World.size_setCell, World.size_drew, setRow_size] at s6
      have B6 : Below wr.heap.size wr w6 := by (repeat' (first | (with_reducible exact Below.refl _ _) | (with_reducible assumption) | (with_reducible refine Below.alloc ?_ ?_ _) | (with_reducible refine Below.setCell ?_ ?_ _) | (with_reducible refine below_row ?_ ?_ _) | (with_reducible refine Below.drew ?_) | (with_reducible refine below_drewN ?_ _) | (with_reducible refine Below.trans ?_ (Below.mono (by assumption) ?_)) | (first | exact Nat.le_refl _ | omega | (simp; done) | (simp; omega))))
      go_wp2_with fail
      refine (K2.out _ (Below.trans B6 (Below.mono (B := w6.heap.size) (by (repeat' (first | (with_reducible exact Below.refl _ _) | (with_reducible assumption) | (with_reducible refine Below.alloc ?_ ?_ _) | (with_reducible refine Below.setCell ?_ ?_ _) | (with_reducible refine below_row ?_ ?_ _) | (with_reducible refine Below.drew ?_) | (with_reducible refine below_drewN ?_ _) | (with_reducible refine Below.trans ?_ (Below.mono (by assumption) ?_)) | (first | exact Nat.le_refl _ | omega | (simp; done) | (simp; omega))))) B6.size))).mono ?_
      rintro _ w7 ⟨rfl, hb7⟩
      have s7 := hb7.size; try simp only [World.size_alloc, World.size_setCell, World.size_drew, setRow_size] at s7
      have HX7 := Lib.hid ((Lies.made w6 28 #[.int .i64 x1, .int .i64 x2]).after hb7)
      have B7 : Below wr.heap.size wr w7 := Below.trans B6 (Below.mono (B := w6.heap.size) (by (repeat' (first | (with_reducible exact Below.refl _ _) | (with_reducible assumption) | (with_reducible refine Below.alloc ?_ ?_ _) | (with_reducible refine Below.setCell ?_ ?_ _) | (with_reducible refine below_row ?_ ?_ _) | (with_reducible refine Below.drew ?_) | (with_reducible refine below_drewN ?_ _) | (with_reducible refine Below.trans ?_ (Below.mono (by assumption) ?_)) | (first | exact Nat.le_refl _ | omega | (simp; done) | (simp; omega))))) B6.size)
      clear hb6 hb7 B6 K1 K2
      go_upto_region 16 with fail
      obtain ⟨v, hv, hBv, hkeep, hnew, hszv⟩ := mid_alloc wr w7 B7 #[.int .i64 x1, .int .i64 x2] 28
      rw [hv]
      have HXv := Lib.hid (hkeep _ _ _ HX7.out)
      have HYv := Lib.hid hnew
      have HPv := Lib.hid (HP.out.after hBv)
      have BV : Below w.heap.size w v := BR.trans (hBv.mono sR)
      have sv := BV.size
      have sX : w6.heap.size < v.heap.size := HXv.out.lt
      have sP : w.heap.size < v.heap.size := HPv.out.lt
      have HCv := Lib.hid (cellsD_after BV HC.out (fun _ => hbl))
      have hbv : b < v.heap.size := Nat.lt_of_lt_of_le hbl sv
      have hml : 0 + ds.length ≤ maxLen := by unfold maxLen; omega
      have hmb : (0 + ds.length) * 24 ≤ 140737488355328 := by omega
      have hml1 : ds.length + 1 ≤ maxLen := by unfold maxLen; omega
      have hmb1 : (ds.length + 1) * 24 ≤ 140737488355328 := by omega
      have sP1 : w.heap.size < v.heap.size + 1 := by omega
      have sP2 : w.heap.size < v.heap.size + 1 + 1 := by omega
      have nv0 : ¬ w.heap.size = v.heap.size := by omega
      have nw0 : ¬ v.heap.size = w.heap.size := by omega
      have nv1 : ¬ w.heap.size = v.heap.size + 1 := by omega
      have nw1 : ¬ v.heap.size + 1 = w.heap.size := by omega
      have nv2 : ¬ w.heap.size = v.heap.size + 1 + 1 := by omega
      have nw2 : ¬ v.heap.size + 1 + 1 = w.heap.size := by omega
      have p0 := HPv.out.cell 0
      have p1 := HPv.out.cell 1
      have p2 := HPv.out.cell 2
      clear hv hBv hkeep hnew HX7 HP hszv
      go_cut [18, 19] from 90 to 99 (fun s18 s19 wx => ∃ gz : Nat, s18 = .pointer (some ⟨gz, 0, none⟩) ∧ s19 = .int .i64 ue ∧ Hid (Lies wx gz 28 #[.int .i64 u1, .int .i64 u2]) ∧ Below v.heap.size v wx)
      case first =>
        go_region_held3 (fun W => W.cell? ⟨w.heap.size, 0, none⟩ = some (.int .i64 mn) ∧ W.cell? ⟨w.heap.size, 1, none⟩ = some (.int .i64 ml) ∧ W.cell? ⟨w.heap.size, 2, none⟩ = some (.int .i64 mu)) (first | (refine lies3 (Lies.after HPv.out ?_); ((repeat' (first | (with_reducible exact Below.refl _ _) | (with_reducible assumption) | (with_reducible refine Below.alloc ?_ ?_ _) | (with_reducible refine Below.setCell ?_ ?_ _) | (with_reducible refine below_row ?_ ?_ _) | (with_reducible refine Below.drew ?_) | (with_reducible refine below_drewN ?_ _) | (with_reducible refine Below.trans ?_ (Below.mono (by assumption) ?_)) | (first | exact Nat.le_refl _ | omega | (simp; done) | (simp; omega))))); done) | go_keep) (first | (refine step_append_lies (o := ⟨some 93, _, _, _, _, _⟩) _ (by rfl) (.tmp 91) (.tmp 92) 22 (by rfl) v.heap.size 24 i0 (.agg #[.int .i64 0, .int .i64 0, .int .i64 0]) 3 24 Tryd.underlying22 hi hz0 hz1 hz2 rfl (Nat.succ_pos 2) (.slice (some ⟨_, 0, none⟩) 0 0) 0 [] (by rfl) ?_ ⟨b, off, none⟩ ds.length c (cells3 ds) (by rfl) (cells3_length ds) ?_ (cells3_one ds) h0 hml hmb ?_ _ rfl ?_; (focus ((try with_reducible refine World.ownsRow.drew ?_); first | (refine own_empty _ _ _ ?_ ?_; (focus (simp; done)); (focus first | omega | (simp; done) | (simp; omega))) | (refine World.ownsRow.alloc (own_empty _ _ _ ?_ ?_) _; (focus (simp; done)); (focus first | omega | (simp; done) | (simp; omega))) | (refine World.ownsRow.alloc (World.ownsRow.alloc (own_empty _ _ _ ?_ ?_) _) _; (focus (simp; done)); (focus first | omega | (simp; done) | (simp; omega))))); (focus (refine news_dims ?_ HCv.out (fun _ => hbv); (repeat' (first | (with_reducible exact Below.refl _ _) | (with_reducible assumption) | (with_reducible refine Below.alloc ?_ ?_ _) | (with_reducible refine Below.setCell ?_ ?_ _) | (with_reducible refine below_row ?_ ?_ _) | (with_reducible refine Below.drew ?_) | (with_reducible refine below_drewN ?_ _) | (with_reducible refine Below.trans ?_ (Below.mono (by assumption) ?_)) | (first | exact Nat.le_refl _ | omega | (simp; done) | (simp; omega)))))); (focus first | omega | (simp; done) | (simp; omega)); intro g1 cap1 w8 hown8 hgrow8 hat8 hlt8; simp only [Nat.zero_add, List.nil_append] at hown8; rw [Nat.zero_add]; have B8 : Below v.heap.size v w8 := Below.grown (by (repeat' (first | (with_reducible exact Below.refl _ _) | (with_reducible assumption) | (with_reducible refine Below.alloc ?_ ?_ _) | (with_reducible refine Below.setCell ?_ ?_ _) | (with_reducible refine below_row ?_ ?_ _) | (with_reducible refine Below.drew ?_) | (with_reducible refine below_drewN ?_ _) | (with_reducible refine Below.trans ?_ (Below.mono (by assumption) ?_)) | (first | exact Nat.le_refl _ | omega | (simp; done) | (simp; omega))))) hgrow8 (by first | (simp; done) | (simp; omega)) (fun r e => by simp [Value.ownBlock] at e; omega); have s8 := B8.size; (try (refine (fun (LC0 : Lies w8 (v.heap.size) 24 #[.int .i64 mn, .int .i64 ml, .int .i64 mu]) => ?_) ((hgrow8.block (v.heap.size) ?_ ?_).trans (show Lies _ (v.heap.size) 24 #[.int .i64 mn, .int .i64 ml, .int .i64 mu] from ?_)); rotate_left; (focus first | omega | (simp; done) | (simp; omega)); (focus first | (simp [Value.ownBlock]; done) | (simp [Value.ownBlock]; omega)); (focus first | (refine Lies.drew (Lies.new ?_); simp; done) | (refine Lies.drew (Lies.alloc (Lies.new ?_) _); simp; done) | (refine Lies.drew (Lies.alloc (Lies.alloc (Lies.new ?_) _) _); simp; done) | (refine Lies.new ?_; simp; done) | (refine Lies.alloc (Lies.new ?_) _; simp; done) | (refine Lies.alloc (Lies.alloc (Lies.new ?_) _) _; simp; done)))); (try (refine (fun (LC1 : Lies w8 (v.heap.size + 1) 24 #[.int .i64 mn, .int .i64 ml, .int .i64 mu]) => ?_) ((hgrow8.block (v.heap.size + 1) ?_ ?_).trans (show Lies _ (v.heap.size + 1) 24 #[.int .i64 mn, .int .i64 ml, .int .i64 mu] from ?_)); rotate_left; (focus first | omega | (simp; done) | (simp; omega)); (focus first | (simp [Value.ownBlock]; done) | (simp [Value.ownBlock]; omega)); (focus first | (refine Lies.drew (Lies.new ?_); simp; done) | (refine Lies.drew (Lies.alloc (Lies.new ?_) _); simp; done) | (refine Lies.drew (Lies.alloc (Lies.alloc (Lies.new ?_) _) _); simp; done) | (refine Lies.new ?_; simp; done) | (refine Lies.alloc (Lies.new ?_) _; simp; done) | (refine Lies.alloc (Lies.alloc (Lies.new ?_) _) _; simp; done)))); (try (refine (fun (LC2 : Lies w8 (v.heap.size + 1 + 1) 24 #[.int .i64 mn, .int .i64 ml, .int .i64 mu]) => ?_) ((hgrow8.block (v.heap.size + 1 + 1) ?_ ?_).trans (show Lies _ (v.heap.size + 1 + 1) 24 #[.int .i64 mn, .int .i64 ml, .int .i64 mu] from ?_)); rotate_left; (focus first | omega | (simp; done) | (simp; omega)); (focus first | (simp [Value.ownBlock]; done) | (simp [Value.ownBlock]; omega)); (focus first | (refine Lies.drew (Lies.new ?_); simp; done) | (refine Lies.drew (Lies.alloc (Lies.new ?_) _); simp; done) | (refine Lies.drew (Lies.alloc (Lies.alloc (Lies.new ?_) _) _); simp; done) | (refine Lies.new ?_; simp; done) | (refine Lies.alloc (Lies.new ?_) _; simp; done) | (refine Lies.alloc (Lies.alloc (Lies.new ?_) _) _; simp; done)))); (try (refine (fun (LZ0 : Lies w8 (v.heap.size) 28 #[.int .i64 0, .int .i64 0]) => ?_) ((hgrow8.block (v.heap.size) ?_ ?_).trans (show Lies _ (v.heap.size) 28 #[.int .i64 0, .int .i64 0] from ?_)); rotate_left; (focus first | omega | (simp; done) | (simp; omega)); (focus first | (simp [Value.ownBlock]; done) | (simp [Value.ownBlock]; omega)); (focus first | (refine Lies.drew (Lies.new ?_); simp; done) | (refine Lies.drew (Lies.alloc (Lies.new ?_) _); simp; done) | (refine Lies.drew (Lies.alloc (Lies.alloc (Lies.new ?_) _) _); simp; done) | (refine Lies.new ?_; simp; done) | (refine Lies.alloc (Lies.new ?_) _; simp; done) | (refine Lies.alloc (Lies.alloc (Lies.new ?_) _) _; simp; done)))); (try (refine (fun (LZ1 : Lies w8 (v.heap.size + 1) 28 #[.int .i64 0, .int .i64 0]) => ?_) ((hgrow8.block (v.heap.size + 1) ?_ ?_).trans (show Lies _ (v.heap.size + 1) 28 #[.int .i64 0, .int .i64 0] from ?_)); rotate_left; (focus first | omega | (simp; done) | (simp; omega)); (focus first | (simp [Value.ownBlock]; done) | (simp [Value.ownBlock]; omega)); (focus first | (refine Lies.drew (Lies.new ?_); simp; done) | (refine Lies.drew (Lies.alloc (Lies.new ?_) _); simp; done) | (refine Lies.drew (Lies.alloc (Lies.alloc (Lies.new ?_) _) _); simp; done) | (refine Lies.new ?_; simp; done) | (refine Lies.alloc (Lies.new ?_) _; simp; done) | (refine Lies.alloc (Lies.alloc (Lies.new ?_) _) _; simp; done)))); (try (refine (fun (LZ2 : Lies w8 (v.heap.size + 1 + 1) 28 #[.int .i64 0, .int .i64 0]) => ?_) ((hgrow8.block (v.heap.size + 1 + 1) ?_ ?_).trans (show Lies _ (v.heap.size + 1 + 1) 28 #[.int .i64 0, .int .i64 0] from ?_)); rotate_left; (focus first | omega | (simp; done) | (simp; omega)); (focus first | (simp [Value.ownBlock]; done) | (simp [Value.ownBlock]; omega)); (focus first | (refine Lies.drew (Lies.new ?_); simp; done) | (refine Lies.drew (Lies.alloc (Lies.new ?_) _); simp; done) | (refine Lies.drew (Lies.alloc (Lies.alloc (Lies.new ?_) _) _); simp; done) | (refine Lies.new ?_; simp; done) | (refine Lies.alloc (Lies.new ?_) _; simp; done) | (refine Lies.alloc (Lies.alloc (Lies.new ?_) _) _; simp; done)))); have na0 : ¬ w.heap.size = w8.heap.size := (by omega); have nb0 : ¬ w8.heap.size = w.heap.size := (by omega); have na1 : ¬ w.heap.size = w8.heap.size + 1 := (by omega); have nb1 : ¬ w8.heap.size + 1 = w.heap.size := (by omega); have na2 : ¬ w.heap.size = w8.heap.size + 1 + 1 := (by omega); have nb2 : ¬ w8.heap.size + 1 + 1 = w.heap.size := (by omega); have t81 : w.heap.size < w8.heap.size := (by omega); have t82 : w.heap.size < w8.heap.size + 1 := (by omega); have p80 := (HPv.out.after B8).cell 0; have p81 := (HPv.out.after B8).cell 1; have p82 := (HPv.out.after B8).cell 2) | (refine step_append_lies (o := ⟨some 96, _, _, _, _, _⟩) _ (by rfl) (.tmp 93) (.tmp 95) 22 (by rfl) v.heap.size 24 i0 (.agg #[.int .i64 0, .int .i64 0, .int .i64 0]) 3 24 Tryd.underlying22 hi hz0 hz1 hz2 rfl (Nat.succ_pos 2) (.slice (some ⟨g1, 0, none⟩) ds.length cap1) ds.length (cells3 ds) (by rfl) ?_ ⟨_, 0, none⟩ 1 1 [.int .i64 mn, .int .i64 ml, .int .i64 mu] (by rfl) rfl ?_ (by simp [Value.oneCell']) (Nat.succ_pos 0) hml1 hmb1 ?_ _ rfl ?_; (focus first | exact hown8 | exact hown8.alloc _ | exact (hown8.alloc _).alloc _); (focus (first | (refine news_lies (L := ?_); first | (refine Lies.drew (Lies.new ?_); simp; done) | (refine Lies.drew (Lies.alloc (Lies.new ?_) _); simp; done) | (refine Lies.drew (Lies.alloc (Lies.alloc (Lies.new ?_) _) _); simp; done) | (refine Lies.new ?_; simp; done) | (refine Lies.alloc (Lies.new ?_) _; simp; done) | (refine Lies.alloc (Lies.alloc (Lies.new ?_) _) _; simp; done)) | (refine news_lies (L := ?_); first | exact LC0 | exact LC0.alloc _ | exact (LC0.alloc _).alloc _) | (refine news_lies (L := ?_); first | exact LC1 | exact LC1.alloc _ | exact (LC1.alloc _).alloc _) | (refine news_lies (L := ?_); first | exact LC2 | exact LC2.alloc _ | exact (LC2.alloc _).alloc _))); (focus first | omega | (simp; omega)); intro g2 cap2 w9 hown9 hgrow9 hat9 hlt9; have B9 : Below v.heap.size v w9 := Below.grown (by (repeat' (first | (with_reducible exact Below.refl _ _) | (with_reducible assumption) | (with_reducible refine Below.alloc ?_ ?_ _) | (with_reducible refine Below.setCell ?_ ?_ _) | (with_reducible refine below_row ?_ ?_ _) | (with_reducible refine Below.drew ?_) | (with_reducible refine below_drewN ?_ _) | (with_reducible refine Below.trans ?_ (Below.mono (by assumption) ?_)) | (first | exact Nat.le_refl _ | omega | (simp; done) | (simp; omega))))) hgrow9 (by first | omega | (simp; omega)) (fun r e => (hown8.lt r e).1); have s9 := B9.size; (try (refine (fun (MZ0 : Lies w9 (v.heap.size) 28 #[.int .i64 0, .int .i64 0]) => ?_) (lies_grown (base := v.heap.size) (e := 24) (size := 3) (n := ds.length) (xs := cells3 ds) ?_ ?_ (by decide) hgrow9); rotate_left; (focus first | exact hown8 | exact hown8.alloc _ | exact (hown8.alloc _).alloc _); (focus first | exact LZ0 | exact LZ0.alloc _ | exact (LZ0.alloc _).alloc _))); (try (refine (fun (MZ1 : Lies w9 (v.heap.size + 1) 28 #[.int .i64 0, .int .i64 0]) => ?_) (lies_grown (base := v.heap.size) (e := 24) (size := 3) (n := ds.length) (xs := cells3 ds) ?_ ?_ (by decide) hgrow9); rotate_left; (focus first | exact hown8 | exact hown8.alloc _ | exact (hown8.alloc _).alloc _); (focus first | exact LZ1 | exact LZ1.alloc _ | exact (LZ1.alloc _).alloc _))); (try (refine (fun (MZ2 : Lies w9 (v.heap.size + 1 + 1) 28 #[.int .i64 0, .int .i64 0]) => ?_) (lies_grown (base := v.heap.size) (e := 24) (size := 3) (n := ds.length) (xs := cells3 ds) ?_ ?_ (by decide) hgrow9); rotate_left; (focus first | exact hown8 | exact hown8.alloc _ | exact (hown8.alloc _).alloc _); (focus first | exact LZ2 | exact LZ2.alloc _ | exact (LZ2.alloc _).alloc _))); (try (refine (fun (MZ3 : Lies w9 (w8.heap.size) 28 #[.int .i64 0, .int .i64 0]) => ?_) (lies_grown (base := v.heap.size) (e := 24) (size := 3) (n := ds.length) (xs := cells3 ds) ?_ ?_ (by decide) hgrow9); rotate_left; (focus first | exact hown8 | exact hown8.alloc _ | exact (hown8.alloc _).alloc _); (focus first | (refine Lies.drew (Lies.new ?_); simp; done) | (refine Lies.drew (Lies.alloc (Lies.new ?_) _); simp; done) | (refine Lies.drew (Lies.alloc (Lies.alloc (Lies.new ?_) _) _); simp; done) | (refine Lies.new ?_; simp; done) | (refine Lies.alloc (Lies.new ?_) _; simp; done) | (refine Lies.alloc (Lies.alloc (Lies.new ?_) _) _; simp; done)))); (try (refine (fun (MZ4 : Lies w9 (w8.heap.size + 1) 28 #[.int .i64 0, .int .i64 0]) => ?_) (lies_grown (base := v.heap.size) (e := 24) (size := 3) (n := ds.length) (xs := cells3 ds) ?_ ?_ (by decide) hgrow9); rotate_left; (focus first | exact hown8 | exact hown8.alloc _ | exact (hown8.alloc _).alloc _); (focus first | (refine Lies.drew (Lies.new ?_); simp; done) | (refine Lies.drew (Lies.alloc (Lies.new ?_) _); simp; done) | (refine Lies.drew (Lies.alloc (Lies.alloc (Lies.new ?_) _) _); simp; done) | (refine Lies.new ?_; simp; done) | (refine Lies.alloc (Lies.new ?_) _; simp; done) | (refine Lies.alloc (Lies.alloc (Lies.new ?_) _) _; simp; done)))); have nc0 : ¬ w.heap.size = w9.heap.size := (by omega); have nc1 : ¬ w9.heap.size = w.heap.size := (by omega); have t91 : w.heap.size < w9.heap.size := (by omega); have t92 : w.heap.size < w9.heap.size + 1 := (by omega); have p90 := (HPv.out.after B9).cell 0; have p91 := (HPv.out.after B9).cell 1; have p92 := (HPv.out.after B9).cell 2) | (go_at_call 6; refine (K3.out _ _ _ ?_).mono ?_; (focus (refine own_cells (cap := cap2) (xs := ds ++ [(mn, ml, mu)]) (base := v.heap.size) (n := ds.length + 1) (by simp) ?_; rw [cells3_snoc]; first | exact hown9 | exact hown9.alloc _ | exact (hown9.alloc _).alloc _)); rintro _ w10 ⟨rfl, hb10⟩; have B10 : Below v.heap.size v w10 := Below.trans (by (repeat' (first | (with_reducible exact Below.refl _ _) | (with_reducible assumption) | (with_reducible refine Below.alloc ?_ ?_ _) | (with_reducible refine Below.setCell ?_ ?_ _) | (with_reducible refine below_row ?_ ?_ _) | (with_reducible refine Below.drew ?_) | (with_reducible refine below_drewN ?_ _) | (with_reducible refine Below.trans ?_ (Below.mono (by assumption) ?_)) | (first | exact Nat.le_refl _ | omega | (simp; done) | (simp; omega))))) (hb10.mono (by first | omega | (simp; omega))); have s10 := B10.size; (try (refine (fun (NZ0 : Lies w10 (v.heap.size) 28 #[.int .i64 0, .int .i64 0]) => ?_) (Lies.after ?_ hb10); rotate_left; (focus first | exact MZ0 | exact MZ0.alloc _ | exact (MZ0.alloc _).alloc _))); (try (refine (fun (NZ1 : Lies w10 (v.heap.size + 1) 28 #[.int .i64 0, .int .i64 0]) => ?_) (Lies.after ?_ hb10); rotate_left; (focus first | exact MZ1 | exact MZ1.alloc _ | exact (MZ1.alloc _).alloc _))); (try (refine (fun (NZ2 : Lies w10 (v.heap.size + 1 + 1) 28 #[.int .i64 0, .int .i64 0]) => ?_) (Lies.after ?_ hb10); rotate_left; (focus first | exact MZ2 | exact MZ2.alloc _ | exact (MZ2.alloc _).alloc _))); (try (refine (fun (NZ3 : Lies w10 (w8.heap.size) 28 #[.int .i64 0, .int .i64 0]) => ?_) (Lies.after ?_ hb10); rotate_left; (focus first | exact MZ3 | exact MZ3.alloc _ | exact (MZ3.alloc _).alloc _))); (try (refine (fun (NZ4 : Lies w10 (w8.heap.size + 1) 28 #[.int .i64 0, .int .i64 0]) => ?_) (Lies.after ?_ hb10); rotate_left; (focus first | exact MZ4 | exact MZ4.alloc _ | exact (MZ4.alloc _).alloc _))); (try (refine (fun (NZ5 : Lies w10 (w9.heap.size) 28 #[.int .i64 0, .int .i64 0]) => ?_) (Lies.after ?_ hb10); rotate_left; (focus first | (refine Lies.drew (Lies.new ?_); simp; done) | (refine Lies.drew (Lies.alloc (Lies.new ?_) _); simp; done) | (refine Lies.drew (Lies.alloc (Lies.alloc (Lies.new ?_) _) _); simp; done) | (refine Lies.new ?_; simp; done) | (refine Lies.alloc (Lies.new ?_) _; simp; done) | (refine Lies.alloc (Lies.alloc (Lies.new ?_) _) _; simp; done)))); have pa0 := (HPv.out.after B10).cell 0; have pa1 := (HPv.out.after B10).cell 1; have pa2 := (HPv.out.after B10).cell 2; (try obtain ⟨z0, z1, y0, y1⟩ := NZ0.c2); (try obtain ⟨z0, z1, y0, y1⟩ := NZ1.c2); (try obtain ⟨z0, z1, y0, y1⟩ := NZ2.c2); (try obtain ⟨z0, z1, y0, y1⟩ := NZ3.c2); (try obtain ⟨z0, z1, y0, y1⟩ := NZ4.c2); (try obtain ⟨z0, z1, y0, y1⟩ := NZ5.c2); have nq0 : ¬ v.heap.size = w.heap.size := (by omega); have nr0 : ¬ w.heap.size = v.heap.size := (by omega); have nq1 : ¬ v.heap.size + 1 = w.heap.size := (by omega); have nr1 : ¬ w.heap.size = v.heap.size + 1 := (by omega); have nq2 : ¬ v.heap.size + 1 + 1 = w.heap.size := (by omega); have nr2 : ¬ w.heap.size = v.heap.size + 1 + 1 := (by omega); have nq3 : ¬ w8.heap.size = w.heap.size := (by omega); have nr3 : ¬ w.heap.size = w8.heap.size := (by omega); have nq4 : ¬ w8.heap.size + 1 = w.heap.size := (by omega); have nr4 : ¬ w.heap.size = w8.heap.size + 1 := (by omega); have nq5 : ¬ w9.heap.size = w.heap.size := (by omega); have nr5 : ¬ w.heap.size = w9.heap.size := (by omega); have nq6 : ¬ w10.heap.size = w.heap.size := (by omega); have nr6 : ¬ w.heap.size = w10.heap.size := (by omega)))
        all_goals
          go_wp2_with fail
          go_meet
          refine ⟨_, rfl, rfl, Lib.hid ?_, ?_⟩
          · first | exact (NZ0.store 0 _).store 1 _ | exact (NZ1.store 0 _).store 1 _ | exact (NZ2.store 0 _).store 1 _ | exact (NZ3.store 0 _).store 1 _ | exact (NZ4.store 0 _).store 1 _ | exact (NZ5.store 0 _).store 1 _ | exact Lies.new (by simp)
          · (repeat' (first | (with_reducible exact Below.refl _ _) | (with_reducible assumption) | (with_reducible refine Below.alloc ?_ ?_ _) | (with_reducible refine Below.setCell ?_ ?_ _) | (with_reducible refine below_row ?_ ?_ _) | (with_reducible refine Below.drew ?_) | (with_reducible refine below_drewN ?_ _) | (with_reducible refine Below.trans ?_ (Below.mono (by assumption) ?_)) | (first | exact Nat.le_refl _ | omega | (simp; done) | (simp; omega))))
      case rest =>
        obtain ⟨gz, rfl, rfl, HZ, hbx⟩ := hcut
        obtain ⟨wq, rfl⟩ : ∃ wq : World, wq = wc := ⟨_, rfl⟩
        have hcase : (xe = 6 ∧ x1 = 0 ∧ x2 = 0 ∧ ue = 6 ∧ C = false) ∨ (xe = 0 ∧ x1 ≤ x2 ∧ C = decide (x1 ≤ n ∧ n ≤ x2) ∧ ((ue = 6 ∧ (mu < x1 ∨ x2 < ml)) ∨ (ue = 0 ∧ u1 = max x1 ml ∧ u2 = min x2 mu))) := by
          have a := HX0.out
          have cc := HCE.out
          have d := HU0.out
          rw [HM1.out] at a
          rw [HCC.out] at cc
          rw [HM2.out] at d
          by_cases e : m2 < m1
          · rw [if_pos e] at a
            rw [if_pos (by split <;> split <;> omega)] at d
            simp only [Prod.mk.injEq] at a d
            exact .inl ⟨a.2.symm, a.1.1.symm, a.1.2.symm, d.2.symm, by rw [← cc]; exact decide_eq_false (by omega)⟩
          · rw [if_neg e] at a
            simp only [Prod.mk.injEq] at a
            obtain ⟨⟨rfl, rfl⟩, rfl⟩ := a
            refine .inr ⟨rfl, by omega, cc.symm, ?_⟩
            by_cases f : (if mu < m2 then mu else m2) < (if m1 < ml then ml else m1)
            · rw [if_pos f] at d
              simp only [Prod.mk.injEq] at d
              exact .inl ⟨d.2.symm, by split at f <;> split at f <;> omega⟩
            · rw [if_neg f] at d
              simp only [Prod.mk.injEq] at d
              exact .inr ⟨d.2.symm, by rw [← d.1.1, Int.max_def]; split <;> split <;> omega, by rw [← d.1.2, Int.min_def]; split <;> split <;> omega⟩
        have LX := HXv.out.after hbx
        have LY := HYv.out.after hbx
        have LP := HPv.out.after hbx
        have LZ := HZ.out
        obtain ⟨k0, k1, -, -⟩ := LX.c2
        obtain ⟨j0, j1, -, -⟩ := LY.c2
        obtain ⟨i0', i1', i2', -, -, -⟩ := LP.c3
        obtain ⟨l0, l1, -, -⟩ := LZ.c2
        have BW : Below w.heap.size w wq := BV.trans (hbx.mono BV.size)
        clear HXv HYv HPv HZ hbx LX LY LP LZ HX0 HCE HU0 HM1 HM2 HCC HCv BV p0 p1 p2
        rcases hcase with ⟨rfl, rfl, rfl, rfl, rfl⟩ | ⟨rfl, hxx, hCd, hcase⟩
        · go_wp2
          go_ret
          exact ⟨rfl, BW⟩
        · have d3 : decide (x2 < x1) = false := decide_eq_false (by omega)
          have hnn : (n < x1 ∧ C = false) ∨ (x1 ≤ n ∧ n ≤ x2 ∧ C = true) ∨ (x1 ≤ n ∧ x2 < n ∧ C = false) := by
            rw [hCd]
            by_cases a : n < x1
            · exact .inl ⟨a, decide_eq_false (by omega)⟩
            · by_cases b : n ≤ x2
              · exact .inr (.inl ⟨by omega, b, decide_eq_true ⟨by omega, b⟩⟩)
              · exact .inr (.inr ⟨by omega, by omega, decide_eq_false (by omega)⟩)
          have hmc : (mu < x1 ∧ ue = 6) ∨ (¬ mu < x1 ∧ x2 < ml ∧ ue = 6) ∨ (ue = 0 ∧ u1 = max x1 ml ∧ u2 = min x2 mu) := by
            rcases hcase with ⟨a, b | b⟩ | a
            · exact .inl ⟨b, a⟩
            · by_cases c : mu < x1
              · exact .inl ⟨c, a⟩
              · exact .inr (.inl ⟨c, b, a⟩)
            · exact .inr (.inr a)
          clear hCd hcase
          rcases hnn with ⟨n1, rfl⟩ | ⟨n1, n2, rfl⟩ | ⟨n1, n2, rfl⟩
          · have d1 : decide (x1 ≤ n) = false := decide_eq_false (by omega)
            rcases hmc with ⟨m1', rfl⟩ | ⟨m1', m2', rfl⟩ | ⟨rfl, rfl, rfl⟩
            · have d4 : decide (mu < x1) = true := decide_eq_true m1'
              go_wp2
              go_ret
              exact ⟨rfl, BW⟩
            · have d4 : decide (mu < x1) = false := decide_eq_false m1'
              have d5 : decide (x2 < ml) = true := decide_eq_true m2'
              go_wp2
              go_ret
              exact ⟨rfl, BW⟩
            · go_wp2
              go_ret
              exact ⟨rfl, BW⟩
          · have d1 : decide (x1 ≤ n) = true := decide_eq_true n1
            have d2 : decide (n ≤ x2) = true := decide_eq_true n2
            rcases hmc with ⟨m1', rfl⟩ | ⟨m1', m2', rfl⟩ | ⟨rfl, rfl, rfl⟩
            · have d4 : decide (mu < x1) = true := decide_eq_true m1'
              go_wp2
              go_ret
              exact ⟨rfl, BW⟩
            · have d4 : decide (mu < x1) = false := decide_eq_false m1'
              have d5 : decide (x2 < ml) = true := decide_eq_true m2'
              go_wp2
              go_ret
              exact ⟨rfl, BW⟩
            · go_wp2
              go_ret
              exact ⟨rfl, BW⟩
          · have d1 : decide (x1 ≤ n) = true := decide_eq_true n1
            have d2 : decide (n ≤ x2) = false := decide_eq_false (by omega)
            rcases hmc with ⟨m1', rfl⟩ | ⟨m1', m2', rfl⟩ | ⟨rfl, rfl, rfl⟩
            · have d4 : decide (mu < x1) = true := decide_eq_true m1'
              go_wp2
              go_ret
              exact ⟨rfl, BW⟩
            · have d4 : decide (mu < x1) = false := decide_eq_false m1'
              have d5 : decide (x2 < ml) = true := decide_eq_true m2'
              go_wp2
              go_ret
              exact ⟨rfl, BW⟩
            · go_wp2
              go_ret
              exact ⟨rfl, BW⟩
end Go.Proofs.YtldjkdomklgmaabDoor
