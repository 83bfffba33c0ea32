/- Above. -/
import Derived.Test.YtkjfceajakhlfaaUM
import Derived.Test.YtkjfceajakhlfaaLI
namespace Go.Proofs.Ytkjfceajakhlfaa
set_option linter.unusedVariables false
set_option linter.unusedSimpArgs false
open Go.RowKit Go.Maps

set_option maxHeartbeats 400000 in
theorem above1_any (S : Int → Bool) (m n g : Nat) (x c : Int) (w : World) (hx : NIn x) (hm : BMap w m n S) (hg : Lies w g 112 #[.map (some m)]) :
    Calls Try.prog 86 #[.agg #[.int .i64 x, .int .i64 c], .pointer (some ⟨g, 0, none⟩)] w fun e w' => e = .returned (.bool (!S x)) ∧ Below w.heap.size w w' := by
  have hl := (hm.alloc (.cells #[.int .i64 x, .int .i64 c] 52)).look hx
  have g0 := (hg.alloc (.cells #[.int .i64 x, .int .i64 c] 52)).cell 0
  have zg := hg.lt
  generalize S x = r at *
  clear hm hg
  go_enter Try.func86, Try.ntmps86
  go_wp2
  go_ret
  exact ⟨rfl, by (repeat' (first | (with_reducible first | exact Below.refl _ _ | assumption | refine Below.alloc ?_ ?_ _ | refine Below.setCell ?_ ?_ _ | refine below_row ?_ ?_ _ | refine Below.drew ?_ | refine below_drewN ?_ _ | refine Below.trans ?_ (Below.mono (by assumption) ?_)) | exact Nat.le_refl _ | omega | (simp; done) | (simp; omega) | exact Below.size (by assumption)))⟩
theorem enter_a1 : ∀ (args : Array Value) (W : World), (callFunc 86 args).run Try.prog W = .ok (.enter 86 args) W := enters_of Try.func86 (by kernel_rfl) rfl
theorem qAt_q {xs : List Iss} {zs ls : List Int} (hs : zs.Pairwise (· < ·)) (hl : ls.length = zs.length) {j : Nat} (hj : j < zs.length) : qAt xs zs ls j = qOf xs zs ls zs[j] := by
  obtain ⟨p, hp, ⟨hp', hz⟩, hi⟩ := idx_spec (List.getElem_mem hj)
  have hpj : p = j := by
    rcases Nat.lt_trichotomy p j with h | h | h
    · have := List.pairwise_iff_getElem.1 hs p j hp hj h; omega
    · exact h
    · have := List.pairwise_iff_getElem.1 hs j p hj hp h; omega
  subst hpj
  rw [qOf_at hp rfl hi (by omega)]
  unfold qAt
  rw [List.getD_eq_getElem?_getD, List.getElem?_eq_getElem hp, List.getD_eq_getElem?_getD, List.getElem?_eq_getElem (by omega : p < ls.length)]
  rfl
theorem BMap.keepOwn {W W' : World} {base2 : Nat} {e2 : TypeId} {size2 n2 m n : Nat} {v2 : Value} {xs2 : List Value} {S : Int → Bool} (h : BMap W m n S) (h2 : W.ownsRow base2 e2 size2 v2 n2 xs2) (hg : W.grownBy W' v2.ownBlock) : BMap W' m n S := by
  refine h.kept (hg.block m h.lt ?_)
  intro hk2
  rcases h2.2 with ⟨rfl, _⟩ | ⟨g2, cap2, cur2, rfl, _, hh2, _⟩
  · simp [Value.ownBlock] at hk2
  · obtain rfl : m = g2 := by simpa [Value.ownBlock] using hk2
    obtain ⟨D, ⟨es, cl, h1, h3⟩, -⟩ := h
    rw [hh2] at h1
    cases h1
/-- What is above, among the first k drawings. -/
def aboveJ (zs : List Int) (B : Int → Bool) (k : Nat) : List Int := (zs.take k).filter B
theorem aboveJ_step {zs : List Int} {B : Int → Bool} {k : Nat} (h : k < zs.length) : aboveJ zs B (k + 1) = aboveJ zs B k ++ if B zs[k] then [zs[k]] else [] := by
  unfold aboveJ
  rw [List.take_succ_eq_append_getElem h, List.filter_append]
  congr 1
  by_cases e : B zs[k] <;> simp [e]
theorem aboveJ_le (zs : List Int) (B : Int → Bool) (k : Nat) : (aboveJ zs B k).length ≤ k := by
  unfold aboveJ
  exact Nat.le_trans (List.length_filter_le _ _) (List.length_take_le _ _)
theorem ints_nil (w : World) : IntsAt w (.slice none 0 0) [] := ⟨none, 0, 0, 0, rfl, fun h => absurd h (by simp), fun i h => absurd h (by simp)⟩
theorem foldA_step {l : List Iss} {S : Int → Bool} {j : Nat} (h : j < l.length) : (l.take (j + 1)).foldl stepA S = stepA ((l.take j).foldl stepA S) l[j] := by
  rw [List.take_succ_eq_append_getElem h, List.foldl_append]; rfl

set_option maxRecDepth 100000 in
set_option maxHeartbeats 16000000 in
theorem sAbove_any {vI vL : Value} {xs : List Iss} {ls : List Int} {w : World} (d : Int) (h : RegAt w vI xs) (hL : IntsAt w vL ls) (hll : ls.length ≤ 9223372036854775807) :
    Calls Try.prog 40 #[.agg #[vI], vL, .int .i64 d] w (AboveP (aboveE xs ls d) w) := by
  obtain ⟨A, c, b, off, vi, vd, rfl, hA, hc⟩ := h.at_.row
  have HEQ := Lib.hid (fun W (hW : Below w.heap.size w W) => equip_any A c b off vL xs ls d vi vd W (h.after hW) hll hA (hc.after hW) (hL.after hW))
  have HC := Lib.hid hc
  obtain ⟨AL, cL, rfl⟩ := hL.slice
  unfold aboveE
  by_cases h0 : askE xs ls d = 0
  · obtain ⟨h1, h2, h3⟩ := askE_ok h0
    have K := kit_of h1 h2
    obtain ⟨-, r2, r3, -, -, -⟩ := layE_ok h1
    have hst := numbers_strict r2
    have h7 := (lettersB_iff.1 h2).1
    rw [if_neg (by simpa using h0)]
    unfold EquipP at HEQ
    rw [h0] at HEQ
    have HEQ2 : Hid (∀ W, Below w.heap.size w W → Calls Try.prog 73 #[.agg #[.slice A xs.length c], .slice AL ls.length cL, .int .i64 d] W fun e w' => (∃ vN vD vC, e = .returned (.tuple #[.agg #[.slice A xs.length c, vN, vD, vC], .int .i64 0]) ∧ IntsAt w' vN (numbersL xs) ∧ (∃ n A c, vD = .slice A n c) ∧ (∃ AC cC bC oC, vC = .slice AC (numbersL xs).length cC ∧ (0 < (numbersL xs).length → AC = some ⟨bC, oC, none⟩) ∧ ∀ j (h : j < (numbersL xs).length), ∀ t, t < 5 → w'.cell? ⟨bC, oC + (j * 5 + t), none⟩ = (rowI xs vi vd (qOf xs (numbersL xs) ls (numbersL xs)[j]))[t]?)) ∧ Below W.heap.size W w') :=
      Lib.hid (fun W hW => (HEQ.out W hW).mono (fun e w' ⟨hp, hb⟩ => ⟨hp.elim (fun ⟨_, vN, vD, vC, he, hD, hC⟩ => by
        obtain ⟨AC, cC, bC, oC, e1, e2, e3⟩ := hC
        obtain ⟨A', c', e4⟩ := hD.2.slice
        exact ⟨vN, vD, vC, he, hD.1, ⟨_, A', c', e4⟩, AC, cC, bC, oC, e1, e2, fun j hj t ht => by rw [e3 j hj t ht, qAt_q hst h7 hj]⟩) (fun h => absurd rfl h.1), hb⟩))
    have HIT := Lib.hid (fun z (hz : z ∈ numbersL xs) => (show ItemsAt w (vi (qOf xs (numbersL xs) ls z)) (xs.getD (qOf xs (numbersL xs) ls z) zeroI).items by rw [K.get hz]; exact (hc _ (K.lt z hz)).2.2.2.2.2.2.1))
    have HSLD := Lib.hid (fun z (hz : z ∈ numbersL xs) => (hc.slices (K.lt z hz)).2)
    have HKI := Lib.hid (fun z (hz : z ∈ numbersL xs) => K.itm hz)
    have HOV : Hid (aboveJ (numbersL xs) (fun y => !awayA xs (numbersL xs) (qOf xs (numbersL xs) ls) d 6 y && y != d) (numbersL xs).length = overL xs (numbersL xs) (qOf xs (numbersL xs) ls) d) := Lib.hid (by
      unfold aboveJ overL
      rw [List.take_length]
      exact List.filter_congr (fun y hy => away_end K h3 hy))
    have HND := Lib.hid (fun z (hz : z ∈ numbersL xs) => numbers_nin r2 z hz)
    have hnd := numbers_nin r2 d h3
    have hz20 : (numbersL xs).length ≤ 20 := r3
    have HZD := Lib.hid (fun z (hz : z ∈ numbersL xs) => (show (xs.getD (qOf xs (numbersL xs) ls z) zeroI).d = z by rw [K.get hz]; exact K.d_ z hz _))
    obtain ⟨i0, hi0, hz0, hz1, hz2⟩ := info_parts infoN
    have hmf : ∀ (fn : Fn) (first cap : Array Value) (w : World), (Instr.makeFunc fn first cap).run Try.prog w = .ok (.func fn first cap) w := fun _ _ _ _ => rfl
    clear HEQ h0 h1 h2 h3 K h hL hA hc r2 r3 hst h7 HC
    generalize overL xs (numbersL xs) (qOf xs (numbersL xs) ls) d = OL at *
    generalize qOf xs (numbersL xs) ls = q at *
    generalize numbersL xs = zs at *
    go_enter Try.func40, Try.ntmps40
    go_wp2_with fail
    refine (HEQ2.out _ (by (repeat' (first | (with_reducible first | exact Below.refl _ _ | assumption | refine Below.alloc ?_ ?_ _ | refine Below.setCell ?_ ?_ _ | refine below_row ?_ ?_ _ | refine Below.drew ?_ | refine below_drewN ?_ _ | refine Below.trans ?_ (Below.mono (by assumption) ?_)) | exact Nat.le_refl _ | omega | (simp; done) | (simp; omega) | exact Below.size (by assumption))))).mono ?_
    rintro e w1 ⟨⟨vN, vD, vC, rfl, hN, ⟨nD, AD, cD, rfl⟩, AC, cC, bC, oC, rfl, hAC, hcC⟩, hb1⟩
    have s1 := hb1.size; try simp only [World.size_alloc, World.size_setCell, World.size_drew, setRow_size] at s1
    have hbw1 : Below w.heap.size w w1 := by (repeat' (first | (with_reducible first | exact Below.refl _ _ | assumption | refine Below.alloc ?_ ?_ _ | refine Below.setCell ?_ ?_ _ | refine below_row ?_ ?_ _ | refine Below.drew ?_ | refine below_drewN ?_ _ | refine Below.trans ?_ (Below.mono (by assumption) ?_)) | exact Nat.le_refl _ | omega | (simp; done) | (simp; omega) | exact Below.size (by assumption)))
    have hs1 := hbw1.size
    obtain ⟨AN, cN, bN, oN, rfl, hAN, hcN⟩ := hN
    have HAN := Lib.hid hAN
    have HCN := Lib.hid (fun W (hW : Below w1.heap.size w1 W) i (h : i < zs.length) => cell_keep hW (hcN i h))
    have HAC := Lib.hid hAC
    have HCC := Lib.hid (fun W (hW : Below w1.heap.size w1 W) j (h : j < zs.length) t (ht : t < 5) (v : Value) (hv : (rowI xs vi vd (q zs[j]))[t]? = some v) => cell_keep hW ((hcC j h t ht).trans hv))
    have HAL := Lib.hid (fun W (hW : Below w1.heap.size w1 W) => all_any (.slice A xs.length c) (.slice AD nD cD) AN cN bN oN zs W HAN.out (by omega) HND.out (HCN.out W hW))
    have LO1 := Lib.hid (Lies.made w1 130 #[.slice A xs.length c, .slice AN zs.length cN, .slice AD nD cD, .slice AC zs.length cC])
    clear hb1 hAN hcN hAC hcC HEQ2
    go_wp2_with fail
    refine (HAL.out _ (by (repeat' (first | (with_reducible first | exact Below.refl _ _ | assumption | refine Below.alloc ?_ ?_ _ | refine Below.setCell ?_ ?_ _ | refine below_row ?_ ?_ _ | refine Below.drew ?_ | refine below_drewN ?_ _ | refine Below.trans ?_ (Below.mono (by assumption) ?_)) | exact Nat.le_refl _ | omega | (simp; done) | (simp; omega) | exact Below.size (by assumption))))).mono ?_
    rintro e w2 ⟨rfl, hm2, hb2⟩
    have s2 := hb2.size; try simp only [World.size_alloc, World.size_setCell, World.size_drew, setRow_size] at s2
    simp only [World.size_alloc] at hm2
    have LO2 := Lib.hid ((LO1.out.after hb2).alloc (.cells #[.map (some (w1.heap.size + 1 + 1))] 112))
    have LV2 := Lib.hid (Lies.made w2 112 #[.map (some (w1.heap.size + 1 + 1))])
    have hb12 : Below w1.heap.size w1 w2 := ((Below.refl w1.heap.size w1).alloc (Nat.le_refl _) _).trans (hb2.mono (by simp))
    have hs12 := hb12.size
    have hm3 := hm2.alloc (.cells #[.map (some (w1.heap.size + 1 + 1))] 112)
    have hmlt := hm2.lt
    obtain ⟨w3, hrun, hm4, ht4⟩ := hm3.del hnd 0
    have HM4 := Lib.hid (show BMap w3 (w1.heap.size + 1 + 1) zs.length (awayA xs zs q d 0) from hm4)
    have LO4 := Lib.hid (LO2.out.turned1 ht4 (by omega))
    have LV4 := Lib.hid (LV2.out.turned1 ht4 (by omega))
    have HB4 := Lib.hid (turned_below ht4 (by omega) w1 (hb12.alloc hs12 _) (by simp; omega))
    clear hm2 hm3 hm4 ht4 hb2 HAL LO1
    go_wp2_with fail
    go_loopw [31] (fun i wr => ∃ n : Nat, n ≤ 6 ∧ i = .int .i64 n ∧ Hid (BMap wr (w1.heap.size + 1 + 1) zs.length (awayA xs zs q d n)) ∧ Hid (Lies wr w1.heap.size 130 #[.slice A xs.length c, .slice AN zs.length cN, .slice AD nD cD, .slice AC zs.length cC]) ∧ Hid (Lies wr w2.heap.size 112 #[.map (some (w1.heap.size + 1 + 1))]) ∧ Below w1.heap.size w1 wr) (fun i _ => 6 - (intOf i).toNat)
    case atStart => exact ⟨0, by omega, rfl, HM4, LO4, LV4, HB4.out⟩
    case round =>
      obtain ⟨n, hn, rfl, HMn, LOn, LVn, hbn⟩ := hrel
      have hzn := hbn.size
      by_cases hn6 : n < 6
      · have o3 := LOn.out.cell 3
        have zo := LOn.out.lt
        have kn1 : (n : Int) < 6 := by omega
        have hchl : Hid ((chosenI xs zs q).length = zs.length) := Lib.hid (by simp [chosenI])
        go_wp2_with fail
        go_loopw [36] (fun i wr => ∃ j : Nat, j ≤ zs.length ∧ i = .int .i64 j ∧ Hid (BMap wr (w1.heap.size + 1 + 1) zs.length (((chosenI xs zs q).take j).foldl stepA (awayA xs zs q d n))) ∧ Hid (Lies wr w1.heap.size 130 #[.slice A xs.length c, .slice AN zs.length cN, .slice AD nD cD, .slice AC zs.length cC]) ∧ Hid (Lies wr w2.heap.size 112 #[.map (some (w1.heap.size + 1 + 1))]) ∧ Below w1.heap.size w1 wr) (fun i _ => zs.length - (intOf i).toNat)
        case atStart => exact ⟨0, by omega, rfl, HMn, LOn, LVn, hbn⟩
        case round =>
          obtain ⟨j, hj, rfl, HMj, LOj, LVj, hbj⟩ := hrel
          have hzj := hbj.size
          by_cases hlt : j < zs.length
          · obtain rfl := HAC.out (by omega)
            have hjc : j < (chosenI xs zs q).length := by rw [hchl.out]; exact hlt
            have HST := Lib.hid (foldA_step (S := awayA xs zs q d n) hjc)
            have hcj : (chosenI xs zs q)[j] = xs.getD (q zs[j]) zeroI := by simp [chosenI]
            rw [hcj] at HST
            have hzm := List.getElem_mem hlt
            have hki := HKI.out zs[j] hzm
            have hnz := HND.out zs[j] hzm
            have hzd := HZD.out zs[j] hzm
            obtain ⟨Ai, ci, bi, oi, hvi, hAi, hci⟩ := HIT.out zs[j] hzm
            obtain ⟨A2, n2, c2, hvd⟩ := HSLD.out zs[j] hzm
            have y0 := HCC.out wr hbj j hlt 0 (by omega) _ rfl
            have y1 := HCC.out wr hbj j hlt 1 (by omega) _ rfl
            have y2 := HCC.out wr hbj j hlt 2 (by omega) _ rfl
            have y3 := HCC.out wr hbj j hlt 3 (by omega) _ rfl
            have y4 := HCC.out wr hbj j hlt 4 (by omega) _ rfl
            rw [hvi] at y3
            rw [hvd] at y4
            rw [hzd] at y0
            have q0 : wr.cell? ⟨bC, oC + j * 5, none⟩ = some (.int .i64 (zs[j])) := y0
            have q1 : wr.cell? ⟨bC, oC + j * 5 + 1, none⟩ = _ := y1
            have q2 : wr.cell? ⟨bC, oC + j * 5 + 2, none⟩ = _ := y2
            have q3 : wr.cell? ⟨bC, oC + j * 5 + 3, none⟩ = _ := y3
            have q4 : wr.cell? ⟨bC, oC + j * 5 + 4, none⟩ = _ := y4
            have kl1 : (j : Int) < (zs.length : Int) := by omega
            have HSJ : Hid (∃ S : Int → Bool, ((chosenI xs zs q).take j).foldl stepA (awayA xs zs q d n) = S) := Lib.hid ⟨_, rfl⟩
            obtain ⟨S, hS⟩ := HSJ.out
            rw [hS] at HMj HST
            have HX : Hid (∃ il, (xs.getD (q zs[j]) zeroI).items = il) := Lib.hid ⟨_, rfl⟩
            obtain ⟨il, hil⟩ := HX.out
            rw [hil] at hki hAi hci y3 q3
            have HCF : Hid (∀ W', Below wr.heap.size wr W' → Calls Try.prog 81 #[.slice Ai il.length ci, .func (.func 86) #[] #[.pointer (some ⟨w2.heap.size, 0, none⟩)]] W' fun e w' => e = .returned (.bool (il.any fun it => !S it.1)) ∧ Below W'.heap.size W' w') :=
              Lib.hid (fun W' hW' => hasI_any 86 #[.pointer (some ⟨w2.heap.size, 0, none⟩)] (fun it => !S it.1) Ai ci bi oi il W' hAi (by omega) (fun i hi => ⟨cell_keep (hbw1.trans ((hbj.trans (hW'.mono hzj)).mono hs1)) (hci i hi).1, cell_keep (hbw1.trans ((hbj.trans (hW'.mono hzj)).mono hs1)) (hci i hi).2⟩) enter_a1
                (fun it hit W2 hW2 => above1_any S (w1.heap.size + 1 + 1) zs.length w2.heap.size it.1 it.2 W2 (HND.out it.1 (hki.2.2 it hit).1.1) ((HMj.out.after hW').after hW2) ((LVj.out.after hW').after hW2)))
            have HSA : Hid (stepA S (xs.getD (q zs[j]) zeroI) = if (il.any fun it => !S it.1) = true then (fun y => if y = zs[j] then false else S y) else S) := Lib.hid (by unfold stepA; rw [hil, hzd])
            clear y0 y1 y2 y3 y4 hcj hzm hki hvi hAi hci hvd hzd hS HSJ HX hil
            generalize (xs.getD (q zs[j]) zeroI).l = lx at *
            generalize (xs.getD (q zs[j]) zeroI).k = kx at *
            generalize xs.getD (q zs[j]) zeroI = x at *
            generalize zs[j] = zj at *
            have HAR : Hid (∃ r, (il.any fun it => !S it.1) = r) := Lib.hid ⟨_, rfl⟩
            obtain ⟨r, hr⟩ := HAR.out
            rw [hr] at HCF HSA
            clear hr HAR
            go_wp2_with fail
            refine (HCF.out _ (by (repeat' (first | (with_reducible first | exact Below.refl _ _ | assumption | refine Below.alloc ?_ ?_ _ | refine Below.setCell ?_ ?_ _ | refine below_row ?_ ?_ _ | refine Below.drew ?_ | refine below_drewN ?_ _ | refine Below.trans ?_ (Below.mono (by assumption) ?_)) | exact Nat.le_refl _ | omega | (simp; done) | (simp; omega) | exact Below.size (by assumption))))).mono ?_
            rintro e w5 ⟨rfl, hb5⟩
            have s5 := hb5.size; try simp only [World.size_alloc, World.size_setCell, World.size_drew, setRow_size] at s5
            have HX5 := Lib.hid ((Lies.made wr 45 #[.int .i64 zj, .int .i64 lx, .int .u8 kx, .slice Ai il.length ci, .slice A2 n2 c2]).after hb5)
            have LO5 := Lib.hid ((LOj.out.alloc (.cells #[.int .i64 zj, .int .i64 lx, .int .u8 kx, .slice Ai il.length ci, .slice A2 n2 c2] 45)).after hb5)
            have LV5 := Lib.hid ((LVj.out.alloc (.cells #[.int .i64 zj, .int .i64 lx, .int .u8 kx, .slice Ai il.length ci, .slice A2 n2 c2] 45)).after hb5)
            have HM5 := Lib.hid ((HMj.out.alloc (.cells #[.int .i64 zj, .int .i64 lx, .int .u8 kx, .slice Ai il.length ci, .slice A2 n2 c2] 45)).after hb5)
            have hb15 : Below w1.heap.size w1 w5 := (hbj.alloc hzj _).trans (hb5.mono (by simp; omega))
            have x0 := HX5.out.cell 0
            have zx := HX5.out.lt
            have v0 := LV5.out.cell 0
            have zv := LV5.out.lt
            clear hb5 q0 q1 q2 q3 q4 HMj
            cases r
            · have HST2 : Hid (((chosenI xs zs q).take (j + 1)).foldl stepA (awayA xs zs q d n) = S) := Lib.hid (by rw [HST.out, HSA.out]; rfl)
              go_wp2_with fail
              go_roundw
              case rel => exact ⟨j + 1, by omega, by go_num, Lib.hid (by rw [HST2.out]; exact HM5.out), LO5, LV5, hb15⟩
              case measure => simp [intOf]; omega
            · obtain ⟨w6, hrun6, hm6, ht6⟩ := HM5.out.del hnz 0
              have HM6 : Hid (BMap w6 (w1.heap.size + 1 + 1) zs.length (((chosenI xs zs q).take (j + 1)).foldl stepA (awayA xs zs q d n))) := Lib.hid (by rw [HST.out, HSA.out, if_pos rfl]; exact hm6)
              have LO6 := Lib.hid (LO5.out.turned1 ht6 (by omega))
              have LV6 := Lib.hid (LV5.out.turned1 ht6 (by omega))
              have HB6 := Lib.hid (turned_below ht6 (by omega) w1 hb15 hb15.size)
              clear hm6 ht6
              go_wp2_with fail
              go_roundw
              case rel => exact ⟨j + 1, by omega, by go_num, HM6, LO6, LV6, HB6.out⟩
              case measure => simp [intOf]; omega
          · have hje : j = zs.length := by omega
            have HM7 : Hid (BMap wr (w1.heap.size + 1 + 1) zs.length (awayA xs zs q d (n + 1))) := Lib.hid (by have := HMj.out; rw [hje, ← hchl.out, List.take_length] at this; rw [hchl.out] at this; exact this)
            clear HMj
            subst hje
            have kl0 : ¬ (zs.length : Int) < (zs.length : Int) := by omega
            go_wp2_with fail
            go_roundw
            case rel => exact ⟨n + 1, by omega, by go_num, HM7, LOj, LVj, hbj⟩
            case measure => simp [intOf]; omega
      · have hn7 : n = 6 := by omega
        subst hn7
        have o1 := LOn.out.cell 1
        have zo := LOn.out.lt
        have hbw : Below w.heap.size w wr := hbw1.trans (hbn.mono hs1)
        have HSS : Hid (∃ S : Int → Bool, awayA xs zs q d 6 = S) := Lib.hid ⟨_, rfl⟩
        obtain ⟨S, hS⟩ := HSS.out
        rw [hS] at HMn HOV
        clear hS HSS HIT HSLD HKI HCC HZD
        go_wp2_with fail
        obtain ⟨wq, rfl⟩ : ∃ wq : World, wq = wr := ⟨_, rfl⟩
        have hzq : w1.heap.size ≤ wq.heap.size := hzn
        go_loopw [13, 53] (fun v i wr => ∃ (k : Nat) (AO : Option Addr) (cO : Nat), k ≤ zs.length ∧ i = .int .i64 k ∧ v = .slice AO (aboveJ zs (fun y => !S y && y != d) k).length cO ∧ Hid (wr.ownsRow wq.heap.size 3 1 (.slice AO (aboveJ zs (fun y => !S y && y != d) k).length cO) (aboveJ zs (fun y => !S y && y != d) k).length (cellsN (aboveJ zs (fun y => !S y && y != d) k))) ∧ Hid (BMap wr (w1.heap.size + 1 + 1) zs.length S) ∧ Hid (Lies wr w2.heap.size 112 #[.map (some (w1.heap.size + 1 + 1))]) ∧ Below wq.heap.size wq wr) (fun _ i _ => zs.length - (intOf i).toNat)
        case atStart => exact ⟨0, none, 0, by omega, rfl, rfl, Lib.hid (World.ownsRow_nil _ _ _ _), HMn, LVn, Below.refl _ _⟩
        case round =>
          obtain ⟨k, AO, cO, hk, rfl, rfl, HO, HMk, LVk, hbk⟩ := hrel
          have hzk := hbk.size
          have hle := aboveJ_le zs (fun y => !S y && y != d) k
          have v0 := LVk.out.cell 0
          have zv := LVk.out.lt
          by_cases hlt : k < zs.length
          · obtain rfl := HAN.out (by omega)
            have z0 := HCN.out wr (hbn.trans (hbk.mono hzq)) k hlt
            have hnz := HND.out zs[k] (List.getElem_mem hlt)
            have hlk := HMk.out.look hnz
            have HST := Lib.hid (aboveJ_step (B := fun y => !S y && y != d) hlt)
            have kl1 : (k : Int) < (zs.length : Int) := by omega
            generalize zs[k] = zk at *
            have HSZ : Hid (∃ sz bz, S zk = sz ∧ (zk != d) = bz) := Lib.hid ⟨_, _, rfl, rfl⟩
            obtain ⟨sz, bz, hsz, hbz⟩ := HSZ.out
            have HST2 : Hid (aboveJ zs (fun y => !S y && y != d) (k + 1) = aboveJ zs (fun y => !S y && y != d) k ++ if (!sz && bz) = true then [zk] else []) := Lib.hid (by rw [HST.out]; simp only [hsz, hbz])
            rw [hsz] at hlk
            clear HST hsz HSZ
            generalize aboveJ zs (fun y => !S y && y != d) k = aj at *
            cases sz
            · cases bz
              · have HST3 : Hid (aboveJ zs (fun y => !S y && y != d) (k + 1) = aj) := Lib.hid (by rw [HST2.out]; simp)
                go_wp2_with fail
                go_roundw
                case rel => exact ⟨k + 1, AO, cO, by omega, by go_num, by rw [HST3.out], Lib.hid (by rw [HST3.out]; exact HO.out), HMk, LVk, hbk⟩
                case measure => simp [intOf]; omega
              · have HST3 : Hid (aboveJ zs (fun y => !S y && y != d) (k + 1) = aj ++ [zk]) := Lib.hid (by rw [HST2.out]; simp)
                go_wp2_with (at_builtin; refine wpList_append_own _ rfl _ _ 29 rfl wq.heap.size 3 i0 (.int .i64 0) 1 8 Try.underlying29 hi0 hz0 hz1 hz2 rfl (by decide) _ _ _ rfl (HO.out.alloc _) ⟨_, 0, none⟩ 1 1 [.int .i64 zk] rfl rfl (World.news_of_block (cs := #[.int .i64 zk]) (t := 3) (fr := (0, 0)) (Lies.new (by simp))) (by simp [Value.oneCell']) (by unfold maxLen; omega) (by omega) (by simp; omega) ?_; intro v' w8 hown' hgrow _; have HB8 := Lib.hid (below_own (w0 := wq) (B := wq.heap.size) (by (repeat' (first | (with_reducible first | exact Below.refl _ _ | assumption | refine Below.alloc ?_ ?_ _ | refine Below.setCell ?_ ?_ _ | refine below_row ?_ ?_ _ | refine Below.drew ?_ | refine below_drewN ?_ _ | refine Below.trans ?_ (Below.mono (by assumption) ?_)) | exact Nat.le_refl _ | omega | (simp; done) | (simp; omega) | exact Below.size (by assumption)))) (HO.out.alloc (.cells #[.int .i64 zk] 3)) hgrow (Nat.le_refl _) (by simp; omega)); have HM8 := Lib.hid ((HMk.out.alloc _).keepOwn (HO.out.alloc (.cells #[.int .i64 zk] 3)) hgrow); have LV8 := Lib.hid (lies_apart (LVk.out.alloc _) (HO.out.alloc (.cells #[.int .i64 zk] 3)) (by decide) hgrow); have HO8 := Lib.hid hown'; obtain ⟨A8, c8, g8, rfl, -⟩ := own_form hown'; clear hown' hgrow)
                exact ⟨⟨.slice A8 (aj.length + 1) c8, .int .i64 zk, .int .i64 ((k : Int) + 1), ⟨k + 1, by omega, by go_num, A8, c8, by rw [HST3.out]; simp, Lib.hid (by rw [HST3.out]; have := HO8.out; simpa [cellsN] using this), HB8.out⟩, rfl, rfl, rfl⟩, by simp [intOf]; omega⟩
            · have HST3 : Hid (aboveJ zs (fun y => !S y && y != d) (k + 1) = aj) := Lib.hid (by rw [HST2.out]; simp)
              go_wp2_with fail
              go_roundw
              case rel => exact ⟨k + 1, AO, cO, by omega, by go_num, by rw [HST3.out], Lib.hid (by rw [HST3.out]; exact HO.out), HMk, LVk, hbk⟩
              case measure => simp [intOf]; omega
          · have hke : k = zs.length := by omega
            subst hke
            have HI := Lib.hid (ints_of_own HO.out)
            rw [HOV.out] at HI ⊢
            have kl0 : ¬ (zs.length : Int) < (zs.length : Int) := by omega
            have hbwk : Below w.heap.size w wr := hbw.trans (hbk.mono hbw.size)
            go_wp2_with fail
            go_ret2
            exact ⟨.slice AO OL.length cO, rfl, HI.out, hbwk⟩
  · rw [if_pos h0]
    have HEQ2 : Hid (∀ W, Below w.heap.size w W → Calls Try.prog 73 #[.agg #[.slice A xs.length c], .slice AL ls.length cL, .int .i64 d] W fun e w' => e = .returned (.tuple #[zOut, .int .i64 (askE xs ls d)]) ∧ Below W.heap.size W w') :=
      Lib.hid (fun W hW => (HEQ.out W hW).mono (fun e w' ⟨hp, hb⟩ => ⟨hp.elim (fun h => absurd h.1 h0) (fun h => h.2), hb⟩))
    have hne : (askE xs ls d != 0) = true := by simpa using h0
    clear HEQ h0 h hL hA hc HC
    generalize askE xs ls d = ae at *
    go_enter Try.func40, Try.ntmps40
    go_wp2_with fail
    refine (HEQ2.out _ (by (repeat' (first | (with_reducible first | exact Below.refl _ _ | assumption | refine Below.alloc ?_ ?_ _ | refine Below.setCell ?_ ?_ _ | refine below_row ?_ ?_ _ | refine Below.drew ?_ | refine below_drewN ?_ _ | refine Below.trans ?_ (Below.mono (by assumption) ?_)) | exact Nat.le_refl _ | omega | (simp; done) | (simp; omega) | exact Below.size (by assumption))))).mono ?_
    rintro e w1 ⟨rfl, hb1⟩
    have s1 := hb1.size; try simp only [World.size_alloc, World.size_setCell, World.size_drew, setRow_size] at s1
    go_wp2_with fail
    go_ret2
    exact ⟨_, rfl, ints_nil _, by (repeat' (first | (with_reducible first | exact Below.refl _ _ | assumption | refine Below.alloc ?_ ?_ _ | refine Below.setCell ?_ ?_ _ | refine below_row ?_ ?_ _ | refine Below.drew ?_ | refine below_drewN ?_ _ | refine Below.trans ?_ (Below.mono (by assumption) ?_)) | exact Nat.le_refl _ | omega | (simp; done) | (simp; omega) | exact Below.size (by assumption)))⟩
end Go.Proofs.Ytkjfceajakhlfaa
