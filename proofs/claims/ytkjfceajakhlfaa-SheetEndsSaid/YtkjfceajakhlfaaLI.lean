/- Y2: choose. Z2: The reference: Taken. Y3: equip, issue. YI: issue. Y4: Explode's closure. YE: equip. Y5: Explode. -/
import Derived.Test.YtkjfceajakhlfaaLF
import Derived.Test.YtkjfceajakhlfaaLH
import Derived.Deep.RegionHeld3
import Derived.Deep.DeepCutAuto
import Derived.Test.YtkjfceajakhlfaaLG
import Derived.Test.YtkjfceajakhlfaaLB
namespace Go.Proofs.Ytkjfceajakhlfaa
set_option linter.unusedVariables false
set_option linter.unusedSimpArgs false
section
open Go.RowKit

/-- The cells of an issue of a list. -/
def rowI (xs : List Iss) (vi vd : Nat → Value) (q : Nat) : List Value := [.int .i64 ((xs.getD q zeroI).d), .int .i64 ((xs.getD q zeroI).l), .int .u8 (xs.getD q zeroI).k, vi q, vd q]
def cellsC (xs : List Iss) (vi vd : Nat → Value) (q : Nat → Nat) : Nat → List Value
  | 0 => []
  | k + 1 => cellsC xs vi vd q k ++ rowI xs vi vd (q k)
theorem cellsC_len (xs : List Iss) (vi vd : Nat → Value) (q : Nat → Nat) : ∀ k, (cellsC xs vi vd q k).length = k * 5
  | 0 => rfl
  | k + 1 => by rw [cellsC, List.length_append, cellsC_len xs vi vd q k]; simp [rowI]; omega
theorem cellsC_at {xs : List Iss} {vi vd : Nat → Value} {q : Nat → Nat} {i t : Nat} (ht : t < 5) : ∀ k (hi : i < k), (cellsC xs vi vd q k)[i * 5 + t]? = (rowI xs vi vd (q i))[t]?
  | 0, hi => by omega
  | k + 1, hi => by
    have hl := cellsC_len xs vi vd q k
    rw [cellsC]
    by_cases e : i = k
    · subst e
      rw [List.getElem?_append_right (by omega), hl, show i * 5 + t - i * 5 = t by omega]
    · rw [List.getElem?_append_left (by omega), cellsC_at ht k (by omega)]
theorem getD_at {xs : List Iss} {q : Nat} (h : q < xs.length) : xs.getD q zeroI = xs[q] := by
  rw [List.getD_eq_getElem?_getD, List.getElem?_eq_getElem h]; rfl
theorem FindP.yes {xs : List Iss} {vi vd : Nat → Value} {d l : Int} {w w' : World} {e : Ending} (h : FindP xs vi vd d l w e w') (hh : hasN xs d l = true) :
    e = .returned (.tuple #[.agg #[.int .i64 ((xs.getD (idxN xs d l) zeroI).d), .int .i64 ((xs.getD (idxN xs d l) zeroI).l), .int .u8 (xs.getD (idxN xs d l) zeroI).k, vi (idxN xs d l), vd (idxN xs d l)], .bool true]) ∧ Below w.heap.size w w' := by
  obtain ⟨⟨k, hk, hf, rfl⟩ | ⟨hn, -⟩, hb⟩ := h
  · have hi := idxN_first k.2 hk (fun j hj hjk => hf ⟨j, hj⟩ hjk)
    rw [hi, getD_at k.2]
    exact ⟨rfl, hb⟩
  · rw [idxN_none (fun j hj => hn ⟨j, hj⟩)] at hh; cases hh
theorem FindP.no {xs : List Iss} {vi vd : Nat → Value} {d l : Int} {w w' : World} {e : Ending} (h : FindP xs vi vd d l w e w') (hh : hasN xs d l = false) :
    e = .returned (.tuple #[zIss, .bool false]) ∧ Below w.heap.size w w' := by
  obtain ⟨⟨k, hk, hf, rfl⟩ | ⟨hn, he⟩, hb⟩ := h
  · rw [hasN_iff.2 ⟨xs[k], List.getElem_mem k.2, hk⟩] at hh; cases hh
  · exact ⟨he, hb⟩
theorem five_keep (w : World) (g : Nat) (v0 v1 v2 v3 v4 : Value) {k : Nat} (hk : k ≠ g) : (((((w.setCell ⟨g, 0, none⟩ v0).setCell ⟨g, 1, none⟩ v1).setCell ⟨g, 2, none⟩ v2).setCell ⟨g, 3, none⟩ v3).setCell ⟨g, 4, none⟩ v4).heap[k]? = w.heap[k]? :=
  (((((Below.heap_setCell _ ⟨g, 4, none⟩ _ _ hk).trans (Below.heap_setCell _ ⟨g, 3, none⟩ _ _ hk)).trans (Below.heap_setCell _ ⟨g, 2, none⟩ _ _ hk)).trans (Below.heap_setCell _ ⟨g, 1, none⟩ _ _ hk)).trans (Below.heap_setCell _ ⟨g, 0, none⟩ _ _ hk))
theorem Lies.five_other {w : World} {g g' : Nat} {t : TypeId} {cs : Array Value} (h : Lies w g t cs) (hne : g ≠ g') (v0 v1 v2 v3 v4 : Value) : Lies (((((w.setCell ⟨g', 0, none⟩ v0).setCell ⟨g', 1, none⟩ v1).setCell ⟨g', 2, none⟩ v2).setCell ⟨g', 3, none⟩ v3).setCell ⟨g', 4, none⟩ v4) g t cs :=
  (five_keep _ _ _ _ _ _ _ hne).trans h
theorem own_five_far {w : World} {base : Nat} {e : TypeId} {size n g : Nat} {v : Value} {xs : List Value} (h : w.ownsRow base e size v n xs) (hne : ∀ r, v.ownBlock = some r → r ≠ g) (v0 v1 v2 v3 v4 : Value) : (((((w.setCell ⟨g, 0, none⟩ v0).setCell ⟨g, 1, none⟩ v1).setCell ⟨g, 2, none⟩ v2).setCell ⟨g, 3, none⟩ v3).setCell ⟨g, 4, none⟩ v4).ownsRow base e size v n xs :=
  own_at h fun r hr => five_keep _ _ _ _ _ _ _ (hne r hr)
theorem keep_five {w : World} {g : Nat} {v0 v1 v2 v3 v4 : Value} {p : Addr} {v : Value} (h : w.cell? p = some v) (hne : p.block ≠ g) : (((((w.setCell ⟨g, 0, none⟩ v0).setCell ⟨g, 1, none⟩ v1).setCell ⟨g, 2, none⟩ v2).setCell ⟨g, 3, none⟩ v3).setCell ⟨g, 4, none⟩ v4).cell? p = some v :=
  (World.cell?_of_block (five_keep _ _ _ _ _ _ _ hne)).trans h
/-- Which issue is chosen of a drawing, by its place. -/
def qAt (xs : List Iss) (zs ls : List Int) (j : Nat) : Nat := idxN xs (zs.getD j 0) (ls.getD j 0)
/-- What choose tells. -/
def ChooseP (xs : List Iss) (vi vd : Nat → Value) (zs ls : List Int) (w : World) (e : Ending) (w' : World) : Prop :=
  ((lettersB xs zs ls = true ∧ ∃ v, e = .returned (.tuple #[v, .int .i64 0]) ∧ w'.ownsRow w.heap.size 45 5 v zs.length (cellsC xs vi vd (qAt xs zs ls) zs.length)) ∨ (lettersB xs zs ls = false ∧ e = .returned (.tuple #[.slice none 0 0, .int .i64 22]))) ∧ Below w.heap.size w w'

set_option maxRecDepth 100000 in
set_option maxHeartbeats 8000000 in
theorem choose_any (A B L : Option Addr) (c b off cN bN oN cL bL oL : Nat) (vD : Value) (xs : List Iss) (zs ls : List Int) (vi vd : Nat → Value) (w : World) (hl : xs.length ≤ 1000) (hlz : zs.length ≤ 1000) (hll : ls.length ≤ 9223372036854775807) (hs : xs.Pairwise (fun x y => x.d ≤ y.d)) (hA : 0 < xs.length → A = some ⟨b, off, none⟩) (hc : IssRow w b off xs vi vd)
    (hB : 0 < zs.length → B = some ⟨bN, oN, none⟩) (hz : ∀ i (h : i < zs.length), w.cell? ⟨bN, oN + i, none⟩ = some (.int .i64 (zs[i]))) (hL : 0 < ls.length → L = some ⟨bL, oL, none⟩) (hlc : ∀ i (h : i < ls.length), w.cell? ⟨bL, oL + i, none⟩ = some (.int .i64 (ls[i]))) :
    Calls Try.prog 118 #[.agg #[.slice A xs.length c, .slice B zs.length cN, vD], .slice L ls.length cL] w (ChooseP xs vi vd zs ls w) := by
  have HF := Lib.hid (fun d l W (hW : Below w.heap.size w W) => find_any A c b off (.slice B zs.length cN) vD xs vi vd d l W hl hs hA (hc.after hW))
  have HC := Lib.hid hc
  have HB := Lib.hid hB
  have HZ := Lib.hid hz
  have HL := Lib.hid hL
  have HLC := Lib.hid hlc
  clear hs hA hc hB hz hL hlc
  obtain ⟨i0, hi0, hz0, hz1, hz2⟩ := info_parts infoQ
  have HD0 := Lib.hid (Lies.made w 118 #[.slice A xs.length c, .slice B zs.length cN, vD])
  by_cases hlen : ls.length = zs.length
  · have hlb : ((ls.length : Int) != (zs.length : Int)) = false := by simp [hlen]
    have HLEN := Lib.hid hlen
    clear hlen
    go_enter Try.func118, Try.ntmps118
    go_wp2_with fail
    go_loopw [6, 18] (fun v i wr => ∃ (k : Nat) (AO : Option Addr) (cO : Nat), k ≤ ls.length ∧ i = .int .i64 k ∧ v = .slice AO k cO ∧ Hid (∀ j (h : j < zs.length) (h2 : j < ls.length), j < k → hasN xs zs[j] ls[j] = true) ∧ Hid (wr.ownsRow w.heap.size 45 5 (.slice AO k cO) k (cellsC xs vi vd (qAt xs zs ls) k)) ∧ Hid (Lies wr w.heap.size 118 #[.slice A xs.length c, .slice B zs.length cN, vD]) ∧ Below w.heap.size w wr) (fun _ i _ => ls.length - (intOf i).toNat)
    case atStart => exact ⟨0, none, 0, by omega, rfl, rfl, Lib.hid (fun j _ _ h => by omega), Lib.hid (World.ownsRow_nil _ _ _ _), HD0, by (repeat' (first | (with_reducible first | exact Below.refl _ _ | assumption | refine Below.alloc ?_ ?_ _ | refine Below.setCell ?_ ?_ _ | refine below_row ?_ ?_ _ | refine Below.drew ?_ | refine below_drewN ?_ _ | refine Below.trans ?_ (Below.mono (by assumption) ?_)) | exact Nat.le_refl _ | omega | (simp; done) | (simp; omega) | exact Below.size (by assumption)))⟩
    case round =>
      obtain ⟨k, AO, cO, hk, rfl, rfl, HJ, HO, HD, hb⟩ := hrel
      have hzz := hb.size
      by_cases hlt : k < ls.length
      · have hltz : k < zs.length := by have := HLEN.out; omega
        obtain rfl := HB.out (by omega)
        obtain rfl := HL.out (by omega)
        have kl1 : (k : Int) < (ls.length : Int) := by omega
        have kl2 : (k : Int) < (zs.length : Int) := by omega
        have HZK := Lib.hid (fun W (hW : Below w.heap.size w W) => cell_keep hW (HZ.out k hltz))
        have HLK := Lib.hid (fun W (hW : Below w.heap.size w W) => cell_keep hW (HLC.out k hlt))
        have z0 := cell_keep hb (HZ.out k hltz)
        have l0 := cell_keep hb (HLC.out k hlt)
        have d0 := HD.out.cell 0
        have d1 := HD.out.cell 1
        have d2 := HD.out.cell 2
        have zd := HD.out.lt
        have hq : qAt xs zs ls k = idxN xs zs[k] ls[k] := by
          unfold qAt
          rw [List.getD_eq_getElem?_getD, List.getElem?_eq_getElem hltz, List.getD_eq_getElem?_getD, List.getElem?_eq_getElem hlt]; rfl
        have HQ := Lib.hid hq
        have HPUT : Hid (cellsC xs vi vd (qAt xs zs ls) k ++ rowI xs vi vd (idxN xs zs[k] ls[k]) = cellsC xs vi vd (qAt xs zs ls) (k + 1)) := Lib.hid (by rw [cellsC, hq])
        have HJ2 : Hid (hasN xs zs[k] ls[k] = true → ∀ j (h : j < zs.length) (h2 : j < ls.length), j < k + 1 → hasN xs zs[j] ls[j] = true) := Lib.hid (fun hh j h h2 hj => by
          by_cases e : j = k
          · subst e; exact hh
          · exact HJ.out j h h2 (by omega))
        have HNO : Hid (hasN xs zs[k] ls[k] = false → lettersB xs zs ls = false) := Lib.hid (fun hh => lettersB_no hltz hlt hh)
        have HYES := Lib.hid (fun (hh : hasN xs zs[k] ls[k] = true) W (hW : Below w.heap.size w W) => (HF.out zs[k] ls[k] W hW).mono (fun e w' h => h.yes hh))
        have HNOF := Lib.hid (fun (hh : hasN xs zs[k] ls[k] = false) W (hW : Below w.heap.size w W) => (HF.out zs[k] ls[k] W hW).mono (fun e w' h => h.no hh))
        have HSL : Hid (hasN xs zs[k] ls[k] = true → (∃ A n c, vi (idxN xs zs[k] ls[k]) = .slice A n c) ∧ ∃ A n c, vd (idxN xs zs[k] ls[k]) = .slice A n c) := Lib.hid (fun hh => HC.out.slices (of_decide_eq_true hh))
        have zc := cellsC_len xs vi vd (qAt xs zs ls) k
        have n1 : ¬ wr.heap.size = w.heap.size := by omega
        have n2 : ¬ w.heap.size = wr.heap.size := by omega
        have n3 : ¬ bN = wr.heap.size := by have := World.block_lt_of_cell? wr _ z0; simp only at this; omega
        have n4 : ¬ bL = wr.heap.size := by have := World.block_lt_of_cell? wr _ l0; simp only at this; omega
        unfold rowI at HPUT
        clear hq
        generalize hasN xs zs[k] ls[k] = hh at *
        generalize xs.getD (idxN xs zs[k] ls[k]) zeroI = x at *
        generalize vi (idxN xs zs[k] ls[k]) = v1 at *
        generalize vd (idxN xs zs[k] ls[k]) = v2 at *
        generalize zs[k] = zk at *
        generalize ls[k] = lk at *
        generalize x.d = dx at *
        generalize x.l = lx at *
        generalize x.k = kx at *
        cases hh
        · have HY := Lib.hid (HNOF.out rfl)
          have HR := Lib.hid (HNO.out rfl)
          clear HNOF HYES HNO HJ2 HSL HPUT
          go_upto_region 7 with fail
          go_cut [8, 9] (fun s8 s9 wx => ∃ (g : Nat), s8 = .pointer (some ⟨g, 0, none⟩) ∧ s9 = .bool false ∧ Below w.heap.size w wx)
          case first =>
            go_region_held3 (fun W => W.cell? ⟨w.heap.size, 0, none⟩ = some (.slice A xs.length c) ∧ W.cell? ⟨w.heap.size, 1, none⟩ = some (.slice (some ⟨bN, oN, none⟩) zs.length cN) ∧ W.cell? ⟨w.heap.size, 2, none⟩ = some vD ∧ W.cell? ⟨bN, oN + k, none⟩ = some (.int .i64 zk) ∧ W.cell? ⟨bL, oL + k, none⟩ = some (.int .i64 lk)) (first | (((try dsimp only); (with_reducible refine ⟨keep_five ?_ ?_, keep_five ?_ ?_, keep_five ?_ ?_, keep_five ?_ ?_, keep_five ?_ ?_⟩); (all_goals first | assumption | (simp only; omega))); done) | go_keep) ((go_at_call 69; refine (HY.out _ (by (repeat' (first | (with_reducible first | exact Below.refl _ _ | assumption | refine Below.alloc ?_ ?_ _ | refine Below.setCell ?_ ?_ _ | refine below_row ?_ ?_ _ | refine Below.drew ?_ | refine below_drewN ?_ _ | refine Below.trans ?_ (Below.mono (by assumption) ?_)) | exact Nat.le_refl _ | omega | (simp; done) | (simp; omega) | exact Below.size (by assumption))))).mono ?_; rintro e w3 ⟨rfl, hb3⟩; have hbw3 : Below w.heap.size w w3 := (by (repeat' (first | (with_reducible first | exact Below.refl _ _ | assumption | refine Below.alloc ?_ ?_ _ | refine Below.setCell ?_ ?_ _ | refine below_row ?_ ?_ _ | refine Below.drew ?_ | refine below_drewN ?_ _ | refine Below.trans ?_ (Below.mono (by assumption) ?_)) | exact Nat.le_refl _ | omega | (simp; done) | (simp; omega) | exact Below.size (by assumption)))); have L3 : Lies w3 w.heap.size 118 #[.slice A xs.length c, .slice (some ⟨bN, oN, none⟩) zs.length cN, vD] := (by first | exact (HD.out.drew).after hb3 | exact ((HD.out.drew).alloc _).after hb3); have m0 := L3.cell 0; have m1 := L3.cell 1; have m2 := L3.cell 2; have zm := L3.lt; have q0 := HZK.out w3 hbw3; have q1 := HLK.out w3 hbw3; (first | (have N3 : Lies w3 wr.heap.size 45 #[.int .i64 0, .int .i64 0, .int .u8 0, .slice none 0 0, .slice none 0 0] := (Lies.made wr.drew 45 #[.int .i64 0, .int .i64 0, .int .u8 0, .slice none 0 0, .slice none 0 0]).after hb3; have n0 := N3.cell 0; have n1 := N3.cell 1; have n2 := N3.cell 2; have n3 := N3.cell 3; have n4 := N3.cell 4; have f0 := N3.free 0; have f1 := N3.free 1; have f2 := N3.free 2; have f3 := N3.free 3; have f4 := N3.free 4; have zn := N3.lt) | skip)))
            all_goals (rename (_ ∧ _) => HHx; clear HHx)
            all_goals clear q0 q1 m0 m1 m2 z0 l0 d0 d1 d2
            · go_wp2_with fail
              go_meet
              exact ⟨_, rfl, rfl, by (repeat' (first | (with_reducible first | exact Below.refl _ _ | assumption | refine Below.alloc ?_ ?_ _ | refine Below.setCell ?_ ?_ _ | refine below_row ?_ ?_ _ | refine Below.drew ?_ | refine below_drewN ?_ _ | refine Below.trans ?_ (Below.mono (by assumption) ?_)) | exact Nat.le_refl _ | omega | (simp; done) | (simp; omega) | exact Below.size (by assumption)))⟩
            · clear n0 n1 n2 n3 n4 f0 f1 f2 f3 f4
              obtain ⟨wz, hwz⟩ : ∃ W, (((((w3.setCell ⟨wr.heap.size, 0, none⟩ (.int .i64 0)).setCell ⟨wr.heap.size, 1, none⟩ (.int .i64 0)).setCell ⟨wr.heap.size, 2, none⟩ (.int .u8 0)).setCell ⟨wr.heap.size, 3, none⟩ (.slice none 0 0)).setCell ⟨wr.heap.size, 4, none⟩ (.slice none 0 0)) = W := ⟨_, rfl⟩
              have hbz : Below w.heap.size w wz := by rw [← hwz]; exact below_five hbw3 (by omega) _ _ _ _ _
              rw [hwz]
              clear hwz
              go_wp2_with fail
              go_meet
              exact ⟨_, rfl, rfl, hbz⟩
          case rest =>
            obtain ⟨g, rfl, rfl, hbx⟩ := hcut
            go_wp2_with fail
            go_ret2
            exact ⟨.inr ⟨HR.out, rfl⟩, hbx⟩
        · have HY := Lib.hid (HYES.out rfl)
          have HJ3 := Lib.hid (HJ2.out rfl)
          obtain ⟨⟨A1, n1', c1, rfl⟩, A2, n2', c2, rfl⟩ := HSL.out rfl
          clear HNOF HYES HNO HJ2 HSL
          go_upto_region 7 with fail
          go_cut [8, 9] (fun s8 s9 wx => ∃ (g : Nat), s8 = .pointer (some ⟨g, 0, none⟩) ∧ s9 = .bool true ∧ Hid (Lies wx g 45 #[.int .i64 dx, .int .i64 lx, .int .u8 kx, .slice A1 n1' c1, .slice A2 n2' c2]) ∧ Hid (Lies wx w.heap.size 118 #[.slice A xs.length c, .slice (some ⟨bN, oN, none⟩) zs.length cN, vD]) ∧ Hid (wx.ownsRow w.heap.size 45 5 (.slice AO k cO) k (cellsC xs vi vd (qAt xs zs ls) k)) ∧ w.heap.size < g ∧ Below w.heap.size w wx)
          case first =>
            go_region_held3 (fun W => W.cell? ⟨w.heap.size, 0, none⟩ = some (.slice A xs.length c) ∧ W.cell? ⟨w.heap.size, 1, none⟩ = some (.slice (some ⟨bN, oN, none⟩) zs.length cN) ∧ W.cell? ⟨w.heap.size, 2, none⟩ = some vD ∧ W.cell? ⟨bN, oN + k, none⟩ = some (.int .i64 zk) ∧ W.cell? ⟨bL, oL + k, none⟩ = some (.int .i64 lk)) (first | (((try dsimp only); (with_reducible refine ⟨keep_five ?_ ?_, keep_five ?_ ?_, keep_five ?_ ?_, keep_five ?_ ?_, keep_five ?_ ?_⟩); (all_goals first | assumption | (simp only; omega))); done) | go_keep) ((go_at_call 69; refine (HY.out _ (by (repeat' (first | (with_reducible first | exact Below.refl _ _ | assumption | refine Below.alloc ?_ ?_ _ | refine Below.setCell ?_ ?_ _ | refine below_row ?_ ?_ _ | refine Below.drew ?_ | refine below_drewN ?_ _ | refine Below.trans ?_ (Below.mono (by assumption) ?_)) | exact Nat.le_refl _ | omega | (simp; done) | (simp; omega) | exact Below.size (by assumption))))).mono ?_; rintro e w3 ⟨rfl, hb3⟩; have hbw3 : Below w.heap.size w w3 := (by (repeat' (first | (with_reducible first | exact Below.refl _ _ | assumption | refine Below.alloc ?_ ?_ _ | refine Below.setCell ?_ ?_ _ | refine below_row ?_ ?_ _ | refine Below.drew ?_ | refine below_drewN ?_ _ | refine Below.trans ?_ (Below.mono (by assumption) ?_)) | exact Nat.le_refl _ | omega | (simp; done) | (simp; omega) | exact Below.size (by assumption)))); have L3 : Lies w3 w.heap.size 118 #[.slice A xs.length c, .slice (some ⟨bN, oN, none⟩) zs.length cN, vD] := (by first | exact (HD.out.drew).after hb3 | exact ((HD.out.drew).alloc _).after hb3); have HO3 : Hid (w3.ownsRow w.heap.size 45 5 (.slice AO k cO) k (cellsC xs vi vd (qAt xs zs ls) k)) := (by first | exact Lib.hid (own_after HO.out.drew hb3) | exact Lib.hid (own_after (HO.out.drew.alloc _) hb3)); have HL3 := Lib.hid L3; have m0 := L3.cell 0; have m1 := L3.cell 1; have m2 := L3.cell 2; have zm := L3.lt; have q0 := HZK.out w3 hbw3; have q1 := HLK.out w3 hbw3; have s3 := hb3.size; (first | (have N3 : Lies w3 wr.heap.size 45 #[.int .i64 0, .int .i64 0, .int .u8 0, .slice none 0 0, .slice none 0 0] := (Lies.made wr.drew 45 #[.int .i64 0, .int .i64 0, .int .u8 0, .slice none 0 0, .slice none 0 0]).after hb3; have HN3 := Lib.hid N3; have n0 := N3.cell 0; have n1 := N3.cell 1; have n2 := N3.cell 2; have n3 := N3.cell 3; have n4 := N3.cell 4; have f0 := N3.free 0; have f1 := N3.free 1; have f2 := N3.free 2; have f3 := N3.free 3; have f4 := N3.free 4; have zn := N3.lt) | skip); clear L3))
            all_goals (rename (_ ∧ _) => HHx; clear HHx)
            all_goals clear q0 q1 m0 m1 m2 z0 l0 d0 d1 d2
            · go_wp2_with fail
              go_meet
              exact ⟨w3.heap.size, rfl, rfl, Lib.hid (Lies.made _ _ _), Lib.hid (HL3.out.alloc _), Lib.hid (HO3.out.alloc _), by omega, hbw3.alloc hbw3.size _⟩
            · clear n0 n1 n2 n3 n4 f0 f1 f2 f3 f4
              obtain ⟨wz, hwz⟩ : ∃ W, (((((w3.setCell ⟨wr.heap.size, 0, none⟩ (.int .i64 dx)).setCell ⟨wr.heap.size, 1, none⟩ (.int .i64 lx)).setCell ⟨wr.heap.size, 2, none⟩ (.int .u8 kx)).setCell ⟨wr.heap.size, 3, none⟩ (.slice A1 n1' c1)).setCell ⟨wr.heap.size, 4, none⟩ (.slice A2 n2' c2)) = W := ⟨_, rfl⟩
              have HZ1 : Hid (Lies wz wr.heap.size 45 #[.int .i64 dx, .int .i64 lx, .int .u8 kx, .slice A1 n1' c1, .slice A2 n2' c2]) := Lib.hid (by rw [← hwz]; exact HN3.out.five _ _ _ _ _)
              have HZ2 : Hid (Lies wz w.heap.size 118 #[.slice A xs.length c, .slice (some ⟨bN, oN, none⟩) zs.length cN, vD]) := Lib.hid (by rw [← hwz]; exact HL3.out.five_other (by omega) _ _ _ _ _)
              have HZ3 : Hid (wz.ownsRow w.heap.size 45 5 (.slice AO k cO) k (cellsC xs vi vd (qAt xs zs ls) k)) := Lib.hid (by rw [← hwz]; exact own_five_far HO3.out (fun r hr => by have := (HO.out.lt r hr).2; omega) _ _ _ _ _)
              have hbz : Below w.heap.size w wz := by rw [← hwz]; exact below_five hbw3 (by omega) _ _ _ _ _
              rw [hwz]
              clear hwz
              go_wp2_with fail
              go_meet
              exact ⟨wr.heap.size, rfl, rfl, HZ1, HZ2, HZ3, by omega, hbz⟩
          case rest =>
            obtain ⟨g, rfl, rfl, LG, HD4, HO4, hg, hb4⟩ := hcut
            have g0 := LG.out.cell 0
            have g1 := LG.out.cell 1
            have g2 := LG.out.cell 2
            have g3 := LG.out.cell 3
            have g4 := LG.out.cell 4
            have zg := LG.out.lt
            have zb4 := hb4.size
            have e1 : IntKind.i64.wrap ((k : Int) + 1) = (k : Int) + 1 := IntWalk.i64_in _ (by omega)
            go_wp2_with (at_builtin; refine wpList_append_own _ rfl _ _ 22 rfl w.heap.size 45 i0 zIss 5 72 Try.underlying22 hi0 hz0 hz1 hz2 rfl (by decide) _ _ _ rfl (HO4.out.alloc _) ⟨_, 0, none⟩ 1 1 [.int .i64 dx, .int .i64 lx, .int .u8 kx, .slice A1 n1' c1, .slice A2 n2' c2] rfl rfl (World.news_of_block (Lies.made _ _ _)) (by simp [Value.oneCell']) (by unfold maxLen; omega) (by omega) (by simp; omega) ?_; intro v' w5 hown' hgrow _; have HB5 := Lib.hid (below_own (w0 := w) (B := w.heap.size) (by (repeat' (first | (with_reducible first | exact Below.refl _ _ | assumption | refine Below.alloc ?_ ?_ _ | refine Below.setCell ?_ ?_ _ | refine below_row ?_ ?_ _ | refine Below.drew ?_ | refine below_drewN ?_ _ | refine Below.trans ?_ (Below.mono (by assumption) ?_)) | exact Nat.le_refl _ | omega | (simp; done) | (simp; omega) | exact Below.size (by assumption)))) (HO4.out.alloc _) hgrow (Nat.le_refl _) (by simp; omega)); have HD5 := Lib.hid (lies_apart (HD4.out.alloc _) (HO4.out.alloc _) (by decide) hgrow); rw [HPUT.out] at hown'; have HO5 := Lib.hid hown'; obtain ⟨A5, c5, g5, rfl, -⟩ := own_form hown'; clear hown' hgrow)
            go_roundw
            case rel => exact ⟨k + 1, A5, c5, by omega, by go_num, rfl, HJ3, HO5, HD5, HB5.out⟩
            case measure => simp [intOf]; omega
      · have hke : k = ls.length := by omega
        have hkz : k = zs.length := by have := HLEN.out; omega
        have HR : Hid (lettersB xs zs ls = true) := Lib.hid (lettersB_iff.2 ⟨HLEN.out, fun i h h2 => HJ.out i h h2 (by omega)⟩)
        have HO2 := Lib.hid HO.out
        rw [hkz] at HO2
        have kl0 : ¬ (k : Int) < (ls.length : Int) := by omega
        clear hke
        go_wp2_with fail
        go_ret2
        exact ⟨.inl ⟨HR.out, _, rfl, HO2.out⟩, hb⟩
  · have hlb : ((ls.length : Int) != (zs.length : Int)) = true := by simp; omega
    have HR : Hid (lettersB xs zs ls = false) := Lib.hid (by rw [← Bool.not_eq_true, lettersB_iff]; exact fun h => hlen h.1)
    clear hlen
    go_enter Try.func118, Try.ntmps118
    go_wp2_with fail
    go_ret2
    exact ⟨.inr ⟨HR.out, rfl⟩, by (repeat' (first | (with_reducible first | exact Below.refl _ _ | assumption | refine Below.alloc ?_ ?_ _ | refine Below.setCell ?_ ?_ _ | refine below_row ?_ ?_ _ | refine Below.drew ?_ | refine below_drewN ?_ _ | refine Below.trans ?_ (Below.mono (by assumption) ?_)) | exact Nat.le_refl _ | omega | (simp; done) | (simp; omega) | exact Below.size (by assumption)))⟩
end
section
open Go.RowKit

set_option maxRecDepth 100000 in
set_option maxHeartbeats 8000000 in
theorem rTaken_any (A : Option Addr) (c b off : Nat) {vL : Value} (xs : List Iss) (vi vd : Nat → Value) (zs ls : List Int) (d : Int) (w : World) (hr : RegAt w (.slice A xs.length c) xs) (hA : 0 < xs.length → A = some ⟨b, off, none⟩) (hc : IssRow w b off xs vi vd) (hL : IntsAt w vL ls) (hn : numbersR xs = zs) (hd : d ∈ zs) (hls : ls.length = zs.length) (hq : qOf xs zs ls d < xs.length) :
    Calls Try.prog 121 #[.agg #[.slice A xs.length c], vL, .int .i64 d] w fun e w' => e = .returned (.agg #[.int .i64 ((xs.getD (qOf xs zs ls d) zeroI).d), .int .i64 ((xs.getD (qOf xs zs ls d) zeroI).l), .int .u8 (xs.getD (qOf xs zs ls d) zeroI).k, vi (qOf xs zs ls d), vd (qOf xs zs ls d)]) ∧ Below w.heap.size w w' := by
  obtain ⟨p, hp, ⟨hp', hz⟩, hi⟩ := idx_spec hd
  have hpl : p < ls.length := by omega
  have hq2 := qOf_at (xs := xs) hp hz hi hpl
  rw [hq2] at hq ⊢
  have hh : hasN xs d ls[p] = true := decide_eq_true hq
  have hlen := hr.len
  have HNU := Lib.hid (fun W (hW : Below w.heap.size w W) => rNumbers_v (hr.after hW))
  have hnl : (numbersR xs).length ≤ 1000 := Nat.le_trans (numK_le xs xs.length) hr.len
  rw [hn] at HNU hnl
  have HIX := Lib.hid (fun v W (hW : IntsAt W v zs) => rIndex_v d hW hnl)
  rw [hi] at HIX
  have HFD := Lib.hid (fun W (hW : Below w.heap.size w W) => (rFind_any A c b off xs vi vd d ls[p] W hlen hA (hc.after hW)).mono (fun e w' h => h.yes hh))
  obtain ⟨⟨A1, n1, c1, hv1⟩, A2, n2, c2, hv2⟩ := hc.slices hq
  rw [hv1, hv2] at HFD ⊢
  obtain ⟨L, cL, bL, oL, rfl, hLA, hLC⟩ := hL
  obtain rfl := hLA (by omega)
  have HLK := Lib.hid (fun W (hW : Below w.heap.size w W) => cell_keep hW (hLC p hpl))
  have hbL : bL < w.heap.size := by have := World.block_lt_of_cell? w _ (hLC p hpl); exact this
  have kl1 : (p : Int) < (ls.length : Int) := by omega
  have HD0 := Lib.hid ((Lies.made w 24 #[.slice A xs.length c]).alloc (.cells #[.int .i64 0, .int .i64 0, .int .u8 0, .slice none 0 0, .slice none 0 0] 45))
  have HR0 := Lib.hid (Lies.new (u := w.alloc (.cells #[.slice A xs.length c] 24)) (k := w.heap.size + 1) (t := 45) (cs := #[.int .i64 0, .int .i64 0, .int .u8 0, .slice none 0 0, .slice none 0 0]) (by simp))
  have l0 := hLC p hpl
  clear hr hA hc hLA hLC hq hq2 hh hv1 hv2 hi hz hp' hd hn hls
  generalize xs.getD (idxN xs d ls[p]) zeroI = x at *
  generalize ls[p] = lp at *
  generalize x.d = dx at *
  generalize x.l = lx at *
  generalize x.k = kx at *
  have hwA : Below w.heap.size w ((w.alloc (.cells #[.slice A xs.length c] 24)).alloc (.cells #[.int .i64 0, .int .i64 0, .int .u8 0, .slice none 0 0, .slice none 0 0] 45)) := by (repeat' (first | (with_reducible first | exact Below.refl _ _ | assumption | refine Below.alloc ?_ ?_ _ | refine Below.setCell ?_ ?_ _ | refine below_row ?_ ?_ _ | refine Below.drew ?_ | refine below_drewN ?_ _ | refine Below.trans ?_ (Below.mono (by assumption) ?_)) | exact Nat.le_refl _ | omega | (simp; done) | (simp; omega) | exact Below.size (by assumption)))
  have hsA : ((w.alloc (.cells #[.slice A xs.length c] 24)).alloc (.cells #[.int .i64 0, .int .i64 0, .int .u8 0, .slice none 0 0, .slice none 0 0] 45)).heap.size = w.heap.size + 1 + 1 := by simp
  have n3 : ¬ bL = w.heap.size := by omega
  have n4 : ¬ bL = w.heap.size + 1 := by omega
  have n5 : ¬ bL = w.heap.size + 1 + 1 := by omega
  go_enter Try.func121, Try.ntmps121
  go_upto_region 1 with fail
  obtain ⟨wA, hWA⟩ : ∃ W, ((w.alloc (.cells #[.slice A xs.length c] 24)).alloc (.cells #[.int .i64 0, .int .i64 0, .int .u8 0, .slice none 0 0, .slice none 0 0] 45)) = W := ⟨_, rfl⟩
  rw [hWA] at HD0 HR0 hwA hsA ⊢
  have l1 := HLK.out wA hwA
  have d0 := HD0.out.cell 0
  have zd := HD0.out.lt
  have HSA := Lib.hid hsA
  have hsA1 : wA.heap.size ≤ w.heap.size + 1 + 1 := by omega
  have hsA2 : w.heap.size + 1 + 1 ≤ wA.heap.size := by omega
  have n6 : ¬ bL = wA.heap.size := by omega
  have n7 : ¬ wA.heap.size = w.heap.size := by omega
  have n8 : ¬ w.heap.size = wA.heap.size := by omega
  clear hWA hsA l0
  go_cut [7] (fun s7 wx => ∃ (g : Nat), s7 = .pointer (some ⟨g, 0, none⟩) ∧ Hid (Lies wx g 45 #[.int .i64 dx, .int .i64 lx, .int .u8 kx, .slice A1 n1 c1, .slice A2 n2 c2]) ∧ Hid (Lies wx (w.heap.size + 1) 45 #[.int .i64 0, .int .i64 0, .int .u8 0, .slice none 0 0, .slice none 0 0]) ∧ w.heap.size + 1 < g ∧ Below w.heap.size w wx)
  case first =>
    go_region_held3 (fun W => W.cell? ⟨w.heap.size, 0, none⟩ = some (.slice A xs.length c) ∧ W.cell? ⟨bL, oL + p, none⟩ = some (.int .i64 lp)) (first | (((try dsimp only); (with_reducible refine ⟨keep_five ?_ ?_, keep_five ?_ ?_⟩); (all_goals first | assumption | (simp only; omega))); done) | go_keep) (first
      | (go_at_call 59; refine (HNU.out _ (by (repeat' (first | (with_reducible first | exact Below.refl _ _ | assumption | refine Below.alloc ?_ ?_ _ | refine Below.setCell ?_ ?_ _ | refine below_row ?_ ?_ _ | refine Below.drew ?_ | refine below_drewN ?_ _ | refine Below.trans ?_ (Below.mono (by assumption) ?_)) | exact Nat.le_refl _ | omega | (simp; done) | (simp; omega) | exact Below.size (by assumption))))).mono ?_; rintro e w2 ⟨v, rfl, hown, hb2⟩; have hbw2 : Below w.heap.size w w2 := (by (repeat' (first | (with_reducible first | exact Below.refl _ _ | assumption | refine Below.alloc ?_ ?_ _ | refine Below.setCell ?_ ?_ _ | refine below_row ?_ ?_ _ | refine Below.drew ?_ | refine below_drewN ?_ _ | refine Below.trans ?_ (Below.mono (by assumption) ?_)) | exact Nat.le_refl _ | omega | (simp; done) | (simp; omega) | exact Below.size (by assumption)))); have hs2 := hb2.size; (try simp only [World.size_alloc, World.size_drew] at hs2); have HI2 := Lib.hid (fun W (hW : Below w2.heap.size w2 W) => (ints_of_own hown).after hW); obtain ⟨A6, c6, g6, rfl, -⟩ := own_form hown; clear hown; have L2 : Hid (Lies w2 w.heap.size 24 #[.slice A xs.length c]) := (by first | exact Lib.hid ((HD0.out.drew).after hb2) | exact Lib.hid (((HD0.out.drew).alloc _).after hb2)); have R2 : Hid (Lies w2 (w.heap.size + 1) 45 #[.int .i64 0, .int .i64 0, .int .u8 0, .slice none 0 0, .slice none 0 0]) := (by first | exact Lib.hid ((HR0.out.drew).after hb2) | exact Lib.hid (((HR0.out.drew).alloc _).after hb2)); have m0 := L2.out.cell 0; have zm := L2.out.lt; have q1 := HLK.out w2 hbw2; (first | (have N2 : Hid (Lies w2 wA.heap.size 45 #[.int .i64 0, .int .i64 0, .int .u8 0, .slice none 0 0, .slice none 0 0]) := Lib.hid ((Lies.made wA.drew 45 #[.int .i64 0, .int .i64 0, .int .u8 0, .slice none 0 0, .slice none 0 0]).after hb2)) | skip); have n9 : ¬ bL = w2.heap.size := (by omega); have n10 : ¬ w.heap.size = w2.heap.size := (by omega); clear hb2)
      | (go_at_call 60; refine (HIX.out _ _ (HI2.out _ (by (repeat' (first | (with_reducible first | exact Below.refl _ _ | assumption | refine Below.alloc ?_ ?_ _ | refine Below.setCell ?_ ?_ _ | refine below_row ?_ ?_ _ | refine Below.drew ?_ | refine below_drewN ?_ _ | refine Below.trans ?_ (Below.mono (by assumption) ?_)) | exact Nat.le_refl _ | omega | (simp; done) | (simp; omega) | exact Below.size (by assumption)))))).mono ?_; rintro e w3 ⟨rfl, rfl⟩)
      | (go_at_call 71; refine (HFD.out _ (by (repeat' (first | (with_reducible first | exact Below.refl _ _ | assumption | refine Below.alloc ?_ ?_ _ | refine Below.setCell ?_ ?_ _ | refine below_row ?_ ?_ _ | refine Below.drew ?_ | refine below_drewN ?_ _ | refine Below.trans ?_ (Below.mono (by assumption) ?_)) | exact Nat.le_refl _ | omega | (simp; done) | (simp; omega) | exact Below.size (by assumption))))).mono ?_; rintro e w4 ⟨rfl, hb4⟩; have hbw4 : Below w.heap.size w w4 := (by (repeat' (first | (with_reducible first | exact Below.refl _ _ | assumption | refine Below.alloc ?_ ?_ _ | refine Below.setCell ?_ ?_ _ | refine below_row ?_ ?_ _ | refine Below.drew ?_ | refine below_drewN ?_ _ | refine Below.trans ?_ (Below.mono (by assumption) ?_)) | exact Nat.le_refl _ | omega | (simp; done) | (simp; omega) | exact Below.size (by assumption)))); have hs4 := hb4.size; (try simp only [World.size_alloc, World.size_drew] at hs4); have L4 : Hid (Lies w4 w.heap.size 24 #[.slice A xs.length c]) := (by first | exact Lib.hid ((L2.out).after hb4) | exact Lib.hid (((L2.out).alloc _).after hb4)); have R4 : Hid (Lies w4 (w.heap.size + 1) 45 #[.int .i64 0, .int .i64 0, .int .u8 0, .slice none 0 0, .slice none 0 0]) := (by first | exact Lib.hid ((R2.out).after hb4) | exact Lib.hid (((R2.out).alloc _).after hb4)); have t0 := L4.out.cell 0; have t1 := HLK.out w4 hbw4; (first | (have N4 : Hid (Lies w4 wA.heap.size 45 #[.int .i64 0, .int .i64 0, .int .u8 0, .slice none 0 0, .slice none 0 0]) := Lib.hid (N2.out.after hb4); have b0 := N4.out.cell 0; have b1 := N4.out.cell 1; have b2 := N4.out.cell 2; have b3 := N4.out.cell 3; have b4 := N4.out.cell 4; have f0 := N4.out.free 0; have f1 := N4.out.free 1; have f2 := N4.out.free 2; have f3 := N4.out.free 3; have f4 := N4.out.free 4; have zn := N4.out.lt) | (have N5 : Hid (Lies w4 w2.heap.size 45 #[.int .i64 0, .int .i64 0, .int .u8 0, .slice none 0 0, .slice none 0 0]) := Lib.hid ((Lies.made w2 45 #[.int .i64 0, .int .i64 0, .int .u8 0, .slice none 0 0, .slice none 0 0]).after hb4); have b0 := N5.out.cell 0; have b1 := N5.out.cell 1; have b2 := N5.out.cell 2; have b3 := N5.out.cell 3; have b4 := N5.out.cell 4; have f0 := N5.out.free 0; have f1 := N5.out.free 1; have f2 := N5.out.free 2; have f3 := N5.out.free 3; have f4 := N5.out.free 4; have zn := N5.out.lt) | skip); clear hb4))
    all_goals (rename (_ ∧ _) => HHx; clear HHx)
    all_goals clear m0 q1 t0 t1 l1 d0
    all_goals first
      | (obtain ⟨wz, hwz⟩ : ∃ W, (((((w4.setCell ⟨wA.heap.size, 0, none⟩ (.int .i64 dx)).setCell ⟨wA.heap.size, 1, none⟩ (.int .i64 lx)).setCell ⟨wA.heap.size, 2, none⟩ (.int .u8 kx)).setCell ⟨wA.heap.size, 3, none⟩ (.slice A1 n1 c1)).setCell ⟨wA.heap.size, 4, none⟩ (.slice A2 n2 c2)) = W := ⟨_, rfl⟩; have HZ1 : Hid (Lies wz wA.heap.size 45 #[.int .i64 dx, .int .i64 lx, .int .u8 kx, .slice A1 n1 c1, .slice A2 n2 c2]) := Lib.hid (by rw [← hwz]; exact N4.out.five _ _ _ _ _); have HZ2 : Hid (Lies wz (w.heap.size + 1) 45 #[.int .i64 0, .int .i64 0, .int .u8 0, .slice none 0 0, .slice none 0 0]) := Lib.hid (by rw [← hwz]; exact R4.out.five_other (by omega) _ _ _ _ _); have hbz : Below w.heap.size w wz := (by rw [← hwz]; exact below_five hbw4 (by omega) _ _ _ _ _); rw [hwz]; clear hwz; clear b0 b1 b2 b3 b4 f0 f1 f2 f3 f4; go_wp2_with fail; go_meet; exact ⟨wA.heap.size, rfl, HZ1, HZ2, by omega, hbz⟩)
      | (obtain ⟨wz, hwz⟩ : ∃ W, (((((w4.setCell ⟨w2.heap.size, 0, none⟩ (.int .i64 dx)).setCell ⟨w2.heap.size, 1, none⟩ (.int .i64 lx)).setCell ⟨w2.heap.size, 2, none⟩ (.int .u8 kx)).setCell ⟨w2.heap.size, 3, none⟩ (.slice A1 n1 c1)).setCell ⟨w2.heap.size, 4, none⟩ (.slice A2 n2 c2)) = W := ⟨_, rfl⟩; have HZ1 : Hid (Lies wz w2.heap.size 45 #[.int .i64 dx, .int .i64 lx, .int .u8 kx, .slice A1 n1 c1, .slice A2 n2 c2]) := Lib.hid (by rw [← hwz]; exact N5.out.five _ _ _ _ _); have HZ2 : Hid (Lies wz (w.heap.size + 1) 45 #[.int .i64 0, .int .i64 0, .int .u8 0, .slice none 0 0, .slice none 0 0]) := Lib.hid (by rw [← hwz]; exact R4.out.five_other (by omega) _ _ _ _ _); have hbz : Below w.heap.size w wz := (by rw [← hwz]; exact below_five hbw4 (by omega) _ _ _ _ _); rw [hwz]; clear hwz; clear b0 b1 b2 b3 b4 f0 f1 f2 f3 f4; go_wp2_with fail; go_meet; exact ⟨w2.heap.size, rfl, HZ1, HZ2, by omega, hbz⟩)
      | (go_wp2_with fail; go_meet; exact ⟨w4.heap.size, rfl, Lib.hid (Lies.made _ _ _), Lib.hid (R4.out.alloc _), by omega, hbw4.alloc hbw4.size _⟩)
  case rest =>
    obtain ⟨g, rfl, LG, LR, hg, hbx⟩ := hcut
    have g0 := LG.out.cell 0
    have g1 := LG.out.cell 1
    have g2 := LG.out.cell 2
    have g3 := LG.out.cell 3
    have g4 := LG.out.cell 4
    have zg := LG.out.lt
    have m0 := LR.out.free 0
    have m1 := LR.out.free 1
    have m2 := LR.out.free 2
    have m3 := LR.out.free 3
    have m4 := LR.out.free 4
    have y0 := LR.out.cell 0
    have y1 := LR.out.cell 1
    have y2 := LR.out.cell 2
    have y3 := LR.out.cell 3
    have y4 := LR.out.cell 4
    have zr := LR.out.lt
    go_wp2_with fail
    exact bodyPost_ret (results_cell_row rfl _ _ (w.heap.size + 1) _ _ (0, 0) _ rfl (LR.out.five _ _ _ _ _) Try.underlying45 rfl (by kernel_rfl)) rfl ⟨rfl, below_five hbx (by omega) _ _ _ _ _⟩
end
section
open Go.RowKit

theorem Lies.four {w : World} {g : Nat} {t : TypeId} {a b c d : Value} (h : Lies w g t #[a, b, c, d]) (v0 v1 v2 v3 : Value) : Lies ((((w.setCell ⟨g, 0, none⟩ v0).setCell ⟨g, 1, none⟩ v1).setCell ⟨g, 2, none⟩ v2).setCell ⟨g, 3, none⟩ v3) g t #[v0, v1, v2, v3] :=
  (((h.store 0 v0).store 1 v1).store 2 v2).store 3 v3
theorem below_four {B g : Nat} {w0 w : World} (h : Below B w0 w) (hg : B ≤ g) (v0 v1 v2 v3 : Value) : Below B w0 ((((w.setCell ⟨g, 0, none⟩ v0).setCell ⟨g, 1, none⟩ v1).setCell ⟨g, 2, none⟩ v2).setCell ⟨g, 3, none⟩ v3) :=
  (((h.setCell (p := ⟨g, 0, none⟩) hg v0).setCell (p := ⟨g, 1, none⟩) hg v1).setCell (p := ⟨g, 2, none⟩) hg v2).setCell (p := ⟨g, 3, none⟩) hg v3
theorem four_keep (w : World) (g : Nat) (v0 v1 v2 v3 : Value) {k : Nat} (hk : k ≠ g) : ((((w.setCell ⟨g, 0, none⟩ v0).setCell ⟨g, 1, none⟩ v1).setCell ⟨g, 2, none⟩ v2).setCell ⟨g, 3, none⟩ v3).heap[k]? = w.heap[k]? :=
  ((((Below.heap_setCell _ ⟨g, 3, none⟩ _ _ hk).trans (Below.heap_setCell _ ⟨g, 2, none⟩ _ _ hk)).trans (Below.heap_setCell _ ⟨g, 1, none⟩ _ _ hk)).trans (Below.heap_setCell _ ⟨g, 0, none⟩ _ _ hk))
/-- The issues that letters choose, in memory: what the register's own slices are. -/
def ChosenAt (w : World) (vC : Value) (xs : List Iss) (vi vd : Nat → Value) (zs ls : List Int) : Prop :=
  ∃ A c b off, vC = .slice A zs.length c ∧ (0 < zs.length → A = some ⟨b, off, none⟩) ∧ ∀ i, i < zs.length → ∀ t, t < 5 → w.cell? ⟨b, off + (i * 5 + t), none⟩ = (rowI xs vi vd (qAt xs zs ls i))[t]?
theorem ChosenAt.after {w w' : World} {vC : Value} {xs : List Iss} {vi vd : Nat → Value} {zs ls : List Int} (h : ChosenAt w vC xs vi vd zs ls) (hb : Below w.heap.size w w') : ChosenAt w' vC xs vi vd zs ls := by
  obtain ⟨A, c, b, off, hv, hA, hc⟩ := h
  refine ⟨A, c, b, off, hv, hA, fun i hi t ht => ?_⟩
  have h1 := hc i hi t ht
  have hs : ∃ v, (rowI xs vi vd (qAt xs zs ls i))[t]? = some v := ⟨_, List.getElem?_eq_getElem (by simp [rowI]; omega)⟩
  obtain ⟨v, hs⟩ := hs
  rw [hs] at h1 ⊢
  exact cell_keep hb h1
theorem ChosenAt.slice {w : World} {vC : Value} {xs : List Iss} {vi vd : Nat → Value} {zs ls : List Int} (h : ChosenAt w vC xs vi vd zs ls) : ∃ A c, vC = .slice A zs.length c := by
  obtain ⟨A, c, b, off, hv, -⟩ := h
  exact ⟨A, c, hv⟩
theorem chosen_of_own {w : World} {base : Nat} {vC : Value} {xs : List Iss} {vi vd : Nat → Value} {zs ls : List Int} (h : w.ownsRow base 45 5 vC zs.length (cellsC xs vi vd (qAt xs zs ls) zs.length)) : ChosenAt w vC xs vi vd zs ls := by
  obtain ⟨A, c, g, rfl, hf⟩ := own_form h
  refine ⟨A, c, g, 0, rfl, fun h0 => (hf h0).2.1, fun i hi t ht => ?_⟩
  obtain ⟨-, -, cur, hl, hcur⟩ := hf (by omega)
  rw [hl.cell, Nat.zero_add, hcur _ (by omega), cellsC_at ht zs.length hi]
abbrev zOut : Value := .agg #[.slice none 0 0, .slice none 0 0, .slice none 0 0, .slice none 0 0]
/-- What equip tells. -/
def EquipP (xs : List Iss) (vI : Value) (vi vd : Nat → Value) (ls : List Int) (d : Int) (w : World) (e : Ending) (w' : World) : Prop :=
  ((askE xs ls d = 0 ∧ ∃ vN vD vC, e = .returned (.tuple #[.agg #[vI, vN, vD, vC], .int .i64 0]) ∧ DeskAt w' xs vN vD ∧ ChosenAt w' vC xs vi vd (numbersL xs) ls) ∨ (askE xs ls d ≠ 0 ∧ e = .returned (.tuple #[zOut, .int .i64 (askE xs ls d)]))) ∧ Below w.heap.size w w'
theorem DeskAt.after {w w' : World} {xs : List Iss} {vN vD : Value} (h : DeskAt w xs vN vD) (hb : Below w.heap.size w w') : DeskAt w' xs vN vD := ⟨h.1.after hb, h.2.after hb⟩

theorem IntsAt.far {w w' : World} {v : Value} {l : List Int} {g : Nat} {t : TypeId} {cs : Array Value} (h : IntsAt w v l) (hl : Lies w g t cs) (hn : ∀ (i : Nat) (n : Int), cs[i]? ≠ some (Value.int .i64 n)) (hk : ∀ k, k ≠ g → w'.heap[k]? = w.heap[k]?) : IntsAt w' v l := by
  obtain ⟨A, c, b, off, hv, hA, hc⟩ := h
  refine ⟨A, c, b, off, hv, hA, fun i hi => ?_⟩
  have h1 := hc i hi
  by_cases e : b = g
  · subst e
    rw [hl.cell] at h1
    exact absurd h1 (hn _ _)
  · exact (World.cell?_of_block (a := ⟨b, off + i, none⟩) (hk b e)).trans h1
theorem zero4_no (i : Nat) (n : Int) : (#[Value.slice none 0 0, .slice none 0 0, .slice none 0 0, .slice none 0 0] : Array Value)[i]? ≠ some (.int .i64 n) := by
  rcases i with _ | _ | _ | _ | i <;> simp
theorem place_v {W : World} {vN : Value} {zs : List Int} (vI vD : Value) (t : Int) (h : IntsAt W vN zs) (hs : zs.Pairwise (· < ·)) (hl : zs.length ≤ 1000) : Calls Try.prog 72 #[.agg #[vI, vN, vD], .int .i64 t] W (PlaceAt zs t W) := by
  obtain ⟨A, c, b, off, rfl, hA, hc⟩ := h
  exact place_any vI vD A c b off zs t W hs hA hl hc
theorem choose_v {W : World} {vN vL : Value} {zs ls : List Int} (A : Option Addr) (c b off : Nat) (vD : Value) (xs : List Iss) (vi vd : Nat → Value) (hl : xs.length ≤ 1000) (hlz : zs.length ≤ 1000) (hll : ls.length ≤ 9223372036854775807) (hs : xs.Pairwise (fun x y => x.d ≤ y.d)) (hA : 0 < xs.length → A = some ⟨b, off, none⟩) (hc : IssRow W b off xs vi vd) (hN : IntsAt W vN zs) (hL : IntsAt W vL ls) :
    Calls Try.prog 118 #[.agg #[.slice A xs.length c, vN, vD], vL] W (ChooseP xs vi vd zs ls W) := by
  obtain ⟨B, cN, bN, oN, rfl, hB, hz⟩ := hN
  obtain ⟨L, cL, bL, oL, rfl, hL, hlc⟩ := hL
  exact choose_any A B L c b off cN bN oN cL bL oL vD xs zs ls vi vd W hl hlz hll hs hA hc hB hz hL hlc
end
section
open Go.RowKit

set_option maxRecDepth 100000 in
set_option maxHeartbeats 4000000 in
theorem issue_any (vI vD : Value) {vN vC : Value} (xs : List Iss) (vi vd : Nat → Value) (zs ls : List Int) (d : Int) (w : World) (hI : ∃ A n c, vI = .slice A n c) (hN : IntsAt w vN zs) (hC : ChosenAt w vC xs vi vd zs ls) (hs : zs.Pairwise (· < ·)) (hlz : zs.length ≤ 1000) (hls : ls.length = zs.length) (hd : d ∈ zs)
    (hv : ∀ p, p < zs.length → (∃ A n c, vi (qAt xs zs ls p) = .slice A n c) ∧ ∃ A n c, vd (qAt xs zs ls p) = .slice A n c) :
    Calls Try.prog 75 #[.agg #[vI, vN, vD, vC], .int .i64 d] w fun e w' => e = .returned (.agg #[.int .i64 ((xs.getD (qOf xs zs ls d) zeroI).d), .int .i64 ((xs.getD (qOf xs zs ls d) zeroI).l), .int .u8 (xs.getD (qOf xs zs ls d) zeroI).k, vi (qOf xs zs ls d), vd (qOf xs zs ls d)]) ∧ Below w.heap.size w w' := by
  obtain ⟨p, hp, ⟨hp', hz⟩, hi⟩ := idx_spec hd
  have hq : qOf xs zs ls d = qAt xs zs ls p := by
    rw [qOf_at hp hz hi (by omega)]
    unfold qAt
    rw [List.getD_eq_getElem?_getD, List.getElem?_eq_getElem hp, List.getD_eq_getElem?_getD, List.getElem?_eq_getElem (by omega : p < ls.length)]
    simp only [Option.getD_some, hz]
  have hfin : ∀ r : Nat, (∀ i (h : i < zs.length), i < r → zs[i] < d) → (∀ i (h : i < zs.length), r ≤ i → d ≤ zs[i]) → r = p := by
    intro r hr2 hr3
    by_cases h1 : r < p
    · have h2 := hr3 r (by omega) (Nat.le_refl _)
      have h3 := List.pairwise_iff_getElem.1 hs r p (by omega) hp h1
      omega
    · by_cases h2 : p < r
      · have := hr2 p hp h2; omega
      · omega
  have HFIN := Lib.hid hfin
  have HP := Lib.hid (fun W (hW : Below w.heap.size w W) => place_v vI vD d (hN.after hW) hs hlz)
  have HCA := Lib.hid (fun W (hW : Below w.heap.size w W) => hC.after hW)
  obtain ⟨⟨A1, n1, c1, hv1⟩, A2, n2, c2, hv2⟩ := hv p hp
  have hdd : decide (d ∈ zs) = true := decide_eq_true hd
  unfold PlaceAt at HP
  rw [hdd] at HP
  rw [hq, hv1, hv2]
  have HV1 := Lib.hid hv1
  have HV2 := Lib.hid hv2
  obtain ⟨AN, cN, rfl⟩ := hN.slice
  obtain ⟨AC, cC, bC, oC, rfl, hAC, hcC⟩ := hC
  obtain rfl := hAC (by omega)
  have hc5 : ∀ t, t < 5 → w.cell? ⟨bC, oC + (p * 5 + t), none⟩ = [.int .i64 ((xs.getD (qAt xs zs ls p) zeroI).d), .int .i64 ((xs.getD (qAt xs zs ls p) zeroI).l), .int .u8 (xs.getD (qAt xs zs ls p) zeroI).k, .slice A1 n1 c1, .slice A2 n2 c2][t]? := fun t ht => by
    have := hcC p hp t ht
    unfold rowI at this
    rwa [hv1, hv2] at this
  have HC5 := Lib.hid hc5
  have HD0 := Lib.hid ((Lies.made w 130 #[vI, .slice AN zs.length cN, vD, .slice (some ⟨bC, oC, none⟩) zs.length cC]).alloc (.cells #[.int .i64 0, .int .i64 0, .int .u8 0, .slice none 0 0, .slice none 0 0] 45))
  have HR0 := Lib.hid (Lies.new (u := w.alloc (.cells #[vI, .slice AN zs.length cN, vD, .slice (some ⟨bC, oC, none⟩) zs.length cC] 130)) (k := w.heap.size + 1) (t := 45) (cs := #[.int .i64 0, .int .i64 0, .int .u8 0, .slice none 0 0, .slice none 0 0]) (by simp))
  obtain ⟨AI, nI, cI, rfl⟩ := hI
  clear hfin hN hcC hc5 hs hd hdd hq hv hv1 hv2 hi hz hp' hAC
  generalize xs.getD (qAt xs zs ls p) zeroI = x at *
  generalize x.d = dx at *
  generalize x.l = lx at *
  generalize x.k = kx at *
  go_enter Try.func75, Try.ntmps75
  go_wp2_with fail
  refine (HP.out _ (by (repeat' (first | (with_reducible first | exact Below.refl _ _ | assumption | refine Below.alloc ?_ ?_ _ | refine Below.setCell ?_ ?_ _ | refine below_row ?_ ?_ _ | refine Below.drew ?_ | refine below_drewN ?_ _ | refine Below.trans ?_ (Below.mono (by assumption) ?_)) | exact Nat.le_refl _ | omega | (simp; done) | (simp; omega) | exact Below.size (by assumption))))).mono ?_
  rintro e w1 ⟨r, -, hr2, hr3, rfl, hb1⟩
  obtain rfl := HFIN.out r hr2 hr3
  clear hr2 hr3
  have s1 := hb1.size; try simp only [World.size_alloc, World.size_setCell, World.size_drew, setRow_size] at s1
  have hbw1 : Below w.heap.size w w1 := by (repeat' (first | (with_reducible first | exact Below.refl _ _ | assumption | refine Below.alloc ?_ ?_ _ | refine Below.setCell ?_ ?_ _ | refine below_row ?_ ?_ _ | refine Below.drew ?_ | refine below_drewN ?_ _ | refine Below.trans ?_ (Below.mono (by assumption) ?_)) | exact Nat.le_refl _ | omega | (simp; done) | (simp; omega) | exact Below.size (by assumption)))
  have HD1 := Lib.hid (HD0.out.after hb1)
  have HR1 := Lib.hid (HR0.out.after hb1)
  have d3 := HD1.out.cell 3
  have zd := HD1.out.lt
  have m0 := HR1.out.free 0
  have m1 := HR1.out.free 1
  have m2 := HR1.out.free 2
  have m3 := HR1.out.free 3
  have m4 := HR1.out.free 4
  have y0 := HR1.out.cell 0
  have y1 := HR1.out.cell 1
  have y2 := HR1.out.cell 2
  have y3 := HR1.out.cell 3
  have y4 := HR1.out.cell 4
  have zr := HR1.out.lt
  have q0 : w1.cell? ⟨bC, oC + r * 5, none⟩ = some (.int .i64 dx) := cell_keep hbw1 (HC5.out 0 (by omega))
  have q1 : w1.cell? ⟨bC, oC + r * 5 + 1, none⟩ = some (.int .i64 lx) := cell_keep hbw1 (HC5.out 1 (by omega))
  have q2 : w1.cell? ⟨bC, oC + r * 5 + 2, none⟩ = some (.int .u8 kx) := cell_keep hbw1 (HC5.out 2 (by omega))
  have q3 : w1.cell? ⟨bC, oC + r * 5 + 3, none⟩ = some (.slice A1 n1 c1) := cell_keep hbw1 (HC5.out 3 (by omega))
  have q4 : w1.cell? ⟨bC, oC + r * 5 + 4, none⟩ = some (.slice A2 n2 c2) := cell_keep hbw1 (HC5.out 4 (by omega))
  have kl1 : (r : Int) < (zs.length : Int) := by omega
  clear hb1
  go_wp2_with fail
  exact bodyPost_ret (results_cell_row rfl _ _ (w.heap.size + 1) _ _ (0, 0) _ rfl (HR1.out.five _ _ _ _ _) Try.underlying45 rfl (by kernel_rfl)) rfl ⟨rfl, below_five hbw1 (by omega) _ _ _ _ _⟩
end
section
open Go.RowKit Go.Maps

/-- What is needed of the register's memory to walk trees: each drawing's issue is told; its items lie there. -/
structure Walk (w : World) (vO : Value) (xs : List Iss) (zs : List Int) (q : Int → Nat) (vi vd : Nat → Value) : Prop where
  call : ∀ d ∈ zs, ∀ W, Below w.heap.size w W → Calls Try.prog 75 #[vO, .int .i64 d] W fun e w' => e = .returned (.agg #[.int .i64 ((xs.getD (q d) zeroI).d), .int .i64 ((xs.getD (q d) zeroI).l), .int .u8 (xs.getD (q d) zeroI).k, vi (q d), vd (q d)]) ∧ Below W.heap.size W w'
  items : ∀ d ∈ zs, ItemsAt w (vi (q d)) (xs.getD (q d) zeroI).items
  dims : ∀ d ∈ zs, ∃ A n c, vd (q d) = .slice A n c
theorem adds_step {xs : List Iss} {q : Int → Nat} {k : Nat} {d c : Int} {il : List (Int × Int)} {kx : Int} (hi : (xs.getD (q d) zeroI).items = il) (hk : (xs.getD (q d) zeroI).k = kx) :
    addsL xs q (k + 1) d c = (if kx = 1 then [] else [(d, c)]) ++ il.flatMap fun it => addsL xs q k it.1 (c * it.2) := by
  rw [addsL, hi, hk]
/-- How much was added behind j items. -/
def sumJ (xs : List Iss) (q : Int → Nat) (k : Nat) (c : Int) (il : List (Int × Int)) (j : Nat) (y : Int) : Int := sumL ((il.take j).flatMap fun it => addsL xs q k it.1 (c * it.2)) y
theorem sumJ_step {xs : List Iss} {q : Int → Nat} {k : Nat} {c : Int} {il : List (Int × Int)} {j : Nat} (h : j < il.length) (y : Int) : sumJ xs q k c il (j + 1) y = sumJ xs q k c il j y + sumL (addsL xs q k il[j].1 (c * il[j].2)) y := by
  unfold sumJ
  rw [flat_step h, sumL_app]
theorem sumJ_end (xs : List Iss) (q : Int → Nat) (k : Nat) (c : Int) (il : List (Int × Int)) (y : Int) : sumJ xs q k c il il.length y = sumL (il.flatMap fun it => addsL xs q k it.1 (c * it.2)) y := by
  unfold sumJ; rw [List.take_length]
theorem sumJ_bd {xs : List Iss} {zs : List Int} {q rk : Int → Nat} (K : Kit xs zs q rk) {d : Int} (hd : d ∈ zs) (k : Nat) {c : Int} (hc : 0 ≤ c) (j : Nat) (y : Int) : 0 ≤ sumJ xs q k c (xs.getD (q d) zeroI).items j y ∧ sumJ xs q k c (xs.getD (q d) zeroI).items j y ≤ j * (20 * bnd k c) := by
  obtain ⟨h1, h2, h3⟩ := K.itm hd
  have hs := sum_items (k := k) (f := addsL xs q k) (c := c) (y := y) hc (l := (xs.getD (q d) zeroI).items.take j) (fun it hit => (h3 it (List.mem_of_mem_take hit)).1.2) (fun it hit c hc => adds_bd K y k it.1 (h3 it (List.mem_of_mem_take hit)).1.1 c hc)
  refine ⟨hs.1, Int.le_trans hs.2 ?_⟩
  have hn := bnd_nonneg k hc
  exact Int.mul_le_mul_of_nonneg_right (by have := List.length_take_le j (xs.getD (q d) zeroI).items; omega) (by omega)

abbrev bigT : Int := 1000000000000000
set_option maxRecDepth 100000 in
set_option maxHeartbeats 8000000 in
theorem add_any {w : World} {xs : List Iss} {zs : List Int} {q rk : Int → Nat} {vi vd : Nat → Value} {v0 v1 v2 v3 : Value} (g1 g2 g3 m : Nat) (K : Kit xs zs q rk) (hW : Walk w (.agg #[v0, v1, v2, v3]) xs zs q vi vd) (hm : w.heap.size ≤ m) :
    ∀ (k : Nat) (d c : Int) (W : World) (n : Nat) (S : Int → Int), d ∈ zs → rk d ≤ k → 0 ≤ c → n + adb k ≤ 900000 → (∀ y, 0 ≤ S y ∧ S y + bnd k c ≤ bigT) → Below w.heap.size w W → Lies W g1 130 #[v0, v1, v2, v3] → Lies W g2 100 #[.map (some m)] →
      Lies W g3 133 #[.func (.func 74) #[] #[.pointer (some ⟨g1, 0, none⟩), .pointer (some ⟨g2, 0, none⟩), .pointer (some ⟨g3, 0, none⟩)]] → IMap W m n S →
      Calls Try.prog 74 #[.int .i64 d, .int .i64 c, .pointer (some ⟨g1, 0, none⟩), .pointer (some ⟨g2, 0, none⟩), .pointer (some ⟨g3, 0, none⟩)] W fun e w' => (∃ v, e = .returned v) ∧ IMap w' m (n + adb k) (fun y => S y + sumL (addsL xs q k d c) y) ∧ W.grownBy w' (some m) := by
  intro k
  induction k with
  | zero =>
    intro d c W n S hd hr
    have := K.pos d hd
    omega
  | succ k ih =>
    intro d c W n S hd hr hc hn hS hb L1 L2 L3 hM
    obtain ⟨h1, h2, h3⟩ := K.itm hd
    have HCL := Lib.hid (hW.call d hd)
    obtain ⟨Ai, ci, bi, oi, hvi, hAi, hci⟩ := hW.items d hd
    obtain ⟨A2, n2, c2, hvd⟩ := hW.dims d hd
    rw [hvi, hvd] at HCL
    have hsb := fun j y => sumJ_bd K hd k hc j y
    have HIL : Hid (∃ il, (xs.getD (q d) zeroI).items = il) := Lib.hid ⟨_, rfl⟩
    obtain ⟨il, hil⟩ := HIL.out
    have HKX : Hid (∃ kx, (xs.getD (q d) zeroI).k = kx) := Lib.hid ⟨_, rfl⟩
    obtain ⟨kx, hkx⟩ := HKX.out
    have HADD := Lib.hid (adds_step (k := k) (c := c) hil hkx)
    rw [hil] at h1 h2 h3 HCL hAi hci hsb
    rw [hkx] at h2 HCL
    have H3 := Lib.hid h3
    have HSB := Lib.hid hsb
    have HAI := Lib.hid hAi
    have HCI := Lib.hid hci
    have HSS := Lib.hid hS
    have hSd := hS d
    have hb0 := bnd_nonneg k hc
    have hge := bnd_ge k hc
    have hNd : NIn d := by have := K.nin d hd; unfold NIn; omega
    have hadb : adb (k + 1) = 1 + 8 * adb k := rfl
    have hbnd : bnd (k + 1) c = 160 * bnd k c := rfl
    rw [hadb] at hn
    rw [hbnd] at hSd HSS
    unfold bigT at hSd
    have hbm := hb.size
    have M0 := Lib.hid L1
    have M2 := Lib.hid L2
    have M3 := Lib.hid L3
    have HM := Lib.hid hM
    have HIH := Lib.hid ih
    have HW := Lib.hid hW
    have n1 := hM.ne L1
    have n2' := hM.ne L2
    have n3 := hM.ne L3
    have hmlt := hM.lt
    have d0 := L1.cell 0
    have d1 := L1.cell 1
    have d2 := L1.cell 2
    have d3 := L1.cell 3
    have zl := L1.lt
    clear h3 hsb hAi hci hS hM ih hW L1 L2 L3 hvi hvd HIL HKX hil hkx hadb hbnd
    generalize (xs.getD (q d) zeroI).d = dx at *
    generalize (xs.getD (q d) zeroI).l = lx at *
    by_cases hk1 : kx = 1
    · subst hk1
      have HADD2 : Hid (∀ y, sumL (addsL xs q (k + 1) d c) y = sumJ xs q k c il il.length y) := Lib.hid (fun y => by rw [HADD.out, if_pos rfl, List.nil_append, sumJ_end])
      have hb3 : 0 ≤ bnd k c := hb0
      clear HADD h2
      go_enter Try.func74, Try.ntmps74
      go_wp2_with fail
      refine (HCL.out _ (by (repeat' (first | (with_reducible first | exact Below.refl _ _ | assumption | refine Below.alloc ?_ ?_ _ | refine Below.setCell ?_ ?_ _ | refine below_row ?_ ?_ _ | refine Below.drew ?_ | refine below_drewN ?_ _ | refine Below.trans ?_ (Below.mono (by assumption) ?_)) | exact Nat.le_refl _ | omega | (simp; done) | (simp; omega) | exact Below.size (by assumption))))).mono ?_
      rintro e w1 ⟨rfl, hb1⟩
      have s1 := hb1.size; try simp only [World.size_alloc, World.size_setCell, World.size_drew, setRow_size] at s1
      have HM1 := Lib.hid ((HM.out.after hb1).alloc (.cells #[.int .i64 dx, .int .i64 lx, .int .u8 1, .slice Ai il.length ci, .slice A2 n2 c2] 45))
      have HG1 : Hid (W.grownBy (w1.alloc (.cells #[.int .i64 dx, .int .i64 lx, .int .u8 1, .slice Ai il.length ci, .slice A2 n2 c2] 45)) (some m)) := Lib.hid ((grown_of_below hb1 (some m)).trans (World.grownBy_alloc _ _ _))
      clear hb1
      go_wp2_with fail
      go_loopw [24] (fun i wr => ∃ j : Nat, j ≤ il.length ∧ i = .int .i64 j ∧ Hid (IMap wr m (n + j * adb k) (fun y => S y + sumJ xs q k c il j y)) ∧ Hid (W.grownBy wr (some m))) (fun i _ => il.length - (intOf i).toNat)
      case atStart => exact ⟨0, by omega, rfl, Lib.hid ((HM1.out.ext (fun y _ => by simp [sumJ, sumL])).more (by omega)), HG1⟩
      case round =>
        obtain ⟨j, hj, rfl, HMj, HGj⟩ := hrel
        have hbj : Below w.heap.size w wr := grown_below hb HGj.out hm hbm
        have hzj := HGj.out.size
        by_cases hlt : j < il.length
        · obtain rfl := HAI.out (by omega)
          have r0 := cell_keep hbj (HCI.out j hlt).1
          have r1 := cell_keep hbj (HCI.out j hlt).2
          have h3 := H3.out il[j] (List.getElem_mem hlt)
          have HST := Lib.hid (fun y => sumJ_step (xs := xs) (q := q) (k := k) (c := c) hlt y)
          have kl1 : (j : Int) < (il.length : Int) := by omega
          have LJ1 := Lib.hid (lies_grown1 M0.out HGj.out n1)
          have LJ2 := Lib.hid (lies_grown1 M2.out HGj.out n2')
          have LJ3 := Lib.hid (lies_grown1 M3.out HGj.out n3)
          have y3 := LJ3.out.cell 0
          have z3 := LJ3.out.lt
          have HX : Hid (∃ it, il[j] = it) := Lib.hid ⟨_, rfl⟩
          obtain ⟨it, hit⟩ := HX.out
          rw [hit] at r0 r1 h3 HST
          clear hit HX
          obtain ⟨d', c'⟩ := it
          simp only at r0 r1 h3
          have HST2 : Hid (∀ y, sumJ xs q k c il (j + 1) y = sumJ xs q k c il j y + sumL (addsL xs q k d' (c * c')) y) := Lib.hid HST.out
          have hmb := mul_bd hc h3.1.2.1 h3.1.2.2
          have hbb := bnd_mul k hc h3.1.2.1 h3.1.2.2
          have hj7 : j * adb k ≤ 7 * adb k := Nat.mul_le_mul_right _ (by omega)
          have hj8 : (j : Int) * (20 * bnd k c) ≤ 7 * (20 * bnd k c) := Int.mul_le_mul_of_nonneg_right (by omega) (by omega)
          have hcb : c ≤ 1000000000000000 := by have := hSd; omega
          have hcc0 : 0 ≤ c * c' := by omega
          have hcc1 : c * c' ≤ 20000000000000000 := by omega
          have HCALL := Lib.hid (fun W2 (h1 : IMap W2 m (n + j * adb k) (fun y => S y + sumJ xs q k c il j y)) (h2 : Below w.heap.size w W2) (l1 : Lies W2 g1 130 #[v0, v1, v2, v3]) (l2 : Lies W2 g2 100 #[.map (some m)])
            (l3 : Lies W2 g3 133 #[.func (.func 74) #[] #[.pointer (some ⟨g1, 0, none⟩), .pointer (some ⟨g2, 0, none⟩), .pointer (some ⟨g3, 0, none⟩)]]) =>
            HIH.out d' (c * c') W2 (n + j * adb k) (fun y => S y + sumJ xs q k c il j y) h3.1.1 (by omega) hcc0 (by omega) (fun y => by have a1 := HSB.out j y; have a2 := HSS.out y; unfold bigT at a2 ⊢; show 0 ≤ S y + sumJ xs q k c il j y ∧ S y + sumJ xs q k c il j y + bnd k (c * c') ≤ _; omega) h2 l1 l2 l3 h1)
          have e1 : IntKind.i64.wrap (c * c') = c * c' := IntWalk.i64_in _ (by omega)
          clear hmb hbb hj8 HST
          obtain ⟨cc, hcc⟩ : ∃ cc, c * c' = cc := ⟨_, rfl⟩
          have HCC := Lib.hid hcc
          rw [hcc] at e1 HCALL HST2 hcc0 hcc1
          have e2 : c * c' = cc := hcc
          clear hcc
          go_wp2_with fail
          refine (HCALL.out _ (HMj.out.alloc _) (by (repeat' (first | (with_reducible first | exact Below.refl _ _ | assumption | refine Below.alloc ?_ ?_ _ | refine Below.setCell ?_ ?_ _ | refine below_row ?_ ?_ _ | refine Below.drew ?_ | refine below_drewN ?_ _ | refine Below.trans ?_ (Below.mono (by assumption) ?_)) | exact Nat.le_refl _ | omega | (simp; done) | (simp; omega) | exact Below.size (by assumption)))) (LJ1.out.alloc _) (LJ2.out.alloc _) (LJ3.out.alloc _)).mono ?_
          rintro e w2 ⟨⟨v, rfl⟩, hm2, hg2⟩
          have HM2 := Lib.hid hm2
          have HG2 := Lib.hid ((HGj.out.trans (World.grownBy_alloc _ _ _)).trans hg2)
          clear hm2 hg2
          go_wp2_with fail
          go_roundw
          case rel => exact ⟨j + 1, by omega, by go_num, Lib.hid ((HM2.out.ext (fun y _ => by show S y + sumJ xs q k c il j y + _ = _; rw [HST2.out]; omega)).more (by rw [Nat.add_mul]; omega)), HG2⟩
          case measure => simp [intOf]; omega
        · have hje : j = il.length := by omega
          have hj8 : j * adb k ≤ 8 * adb k := Nat.mul_le_mul_right _ (by omega)
          have HMJ2 : Hid (IMap wr m (n + adb (k + 1)) (fun y => S y + sumL (addsL xs q (k + 1) d c) y)) := Lib.hid ((HMj.out.ext (fun y _ => by show S y + sumJ xs q k c il j y = _; rw [HADD2.out, hje])).more (by rw [adb]; omega))
          clear HMj
          subst hje
          go_wp2_with fail
          go_end0
          exact ⟨⟨_, rfl⟩, HMJ2.out, HGj.out⟩
    · have hile : il = [] := h2 hk1
      subst hile
      have hkb : (kx != 1) = true := by simpa using hk1
      have HADD2 : Hid (addsL xs q (k + 1) d c = [(d, c)]) := Lib.hid (by rw [HADD.out, if_neg hk1]; simp)
      clear HADD h2 hk1
      go_enter Try.func74, Try.ntmps74
      go_wp2_with fail
      refine (HCL.out _ (by (repeat' (first | (with_reducible first | exact Below.refl _ _ | assumption | refine Below.alloc ?_ ?_ _ | refine Below.setCell ?_ ?_ _ | refine below_row ?_ ?_ _ | refine Below.drew ?_ | refine below_drewN ?_ _ | refine Below.trans ?_ (Below.mono (by assumption) ?_)) | exact Nat.le_refl _ | omega | (simp; done) | (simp; omega) | exact Below.size (by assumption))))).mono ?_
      rintro e w1 ⟨rfl, hb1⟩
      have s1 := hb1.size; try simp only [World.size_alloc, World.size_setCell, World.size_drew, setRow_size] at s1
      have hm1 := (HM.out.after hb1).alloc (.cells #[.int .i64 dx, .int .i64 lx, .int .u8 kx, .slice Ai 0 ci, .slice A2 n2 c2] 45)
      have g0 := ((M2.out.after hb1).alloc (.cells #[.int .i64 dx, .int .i64 lx, .int .u8 kx, .slice Ai 0 ci, .slice A2 n2 c2] 45)).cell 0
      have hlk := hm1.look hNd
      obtain ⟨w2, hrun, hm2, ht⟩ := hm1.put (v := S d + c) (by omega) hNd (by unfold NIn; omega)
      have HM2 := Lib.hid hm2
      have HT2 := Lib.hid ht
      have LX := Lib.hid ((Lies.made w1 45 #[.int .i64 dx, .int .i64 lx, .int .u8 kx, .slice Ai 0 ci, .slice A2 n2 c2]).turned1 ht (by omega))
      have x3 := LX.out.cell 3
      have zx := LX.out.lt
      have HG2 : Hid (W.grownBy w2 (some m)) := Lib.hid (((grown_of_below hb1 (some m)).trans (World.grownBy_alloc _ _ _)).trans ht.grown)
      have hS0 := hSd.1
      have hS1 : S d + c ≤ 1000000000000000 := by have := hSd.2; omega
      have HSD : Hid (∃ sd, S d = sd) := Lib.hid ⟨_, rfl⟩
      obtain ⟨sd, hsd⟩ := HSD.out
      have HSD2 := Lib.hid hsd
      rw [hsd] at hlk hrun HM2 hS0 hS1
      clear hm2 ht hm1 hSd hsd HSD hb1
      go_wp2_with fail
      go_loopw [24] (fun i wr => i = .int .i64 0 ∧ wr = w2) (fun _ _ => 0)
      case atStart => exact ⟨rfl, rfl⟩
      case round =>
        obtain ⟨rfl, rfl⟩ := hrel
        go_wp2_with fail
        go_end0
        refine ⟨⟨_, rfl⟩, (HM2.out.ext (fun y hy => ?_)).more (by rw [adb]; omega), HG2.out⟩
        show (if y = d then sd + c else S y) = _
        rw [HADD2.out, sumL_one]
        by_cases e : y = d
        · subst e; rw [if_pos rfl, if_pos rfl, HSD2.out]
        · rw [if_neg e, if_neg (fun h => e h.symm)]; omega
end
section
open Go.RowKit

set_option maxRecDepth 100000 in
set_option maxHeartbeats 8000000 in
theorem equip_any (A : Option Addr) (c b off : Nat) (vL : Value) (xs : List Iss) (ls : List Int) (d : Int) (vi vd : Nat → Value) (w : World) (hr : RegAt w (.slice A xs.length c) xs) (hll : ls.length ≤ 9223372036854775807) (hA : 0 < xs.length → A = some ⟨b, off, none⟩) (hc : IssRow w b off xs vi vd) (hL : IntsAt w vL ls) :
    Calls Try.prog 73 #[.agg #[.slice A xs.length c], vL, .int .i64 d] w (EquipP xs (.slice A xs.length c) vi vd ls d w) := by
  have hlen := hr.len
  have HRG := Lib.hid (fun W (hW : Below w.heap.size w W) => hr.after hW)
  have HD0 := Lib.hid (Lies.new (u := w.alloc (.cells #[.slice A xs.length c] 24)) (k := w.heap.size + 1) (t := 130) (cs := #[.slice none 0 0, .slice none 0 0, .slice none 0 0, .slice none 0 0]) (by simp))
  have HEP : Hid (∀ e w', (((askE xs ls d = 0 ∧ ∃ vN vD vC, e = .returned (.tuple #[.agg #[.slice A xs.length c, vN, vD, vC], .int .i64 0]) ∧ DeskAt w' xs vN vD ∧ ChosenAt w' vC xs vi vd (numbersL xs) ls) ∨ (askE xs ls d ≠ 0 ∧ e = .returned (.tuple #[zOut, .int .i64 (askE xs ls d)]))) ∧ Below w.heap.size w w') → EquipP xs (.slice A xs.length c) vi vd ls d w e w') := Lib.hid (fun e w' h => h)
  generalize EquipP xs (.slice A xs.length c) vi vd ls d w = EP at *
  by_cases h0 : layE xs = 0
  · have HL := Lib.hid (fun W (hW : Below w.heap.size w W) => lay_yes (HRG.out W hW) h0)
    obtain ⟨-, h2, h3, -, -, -⟩ := layE_ok h0
    have HST := Lib.hid (numbers_strict h2)
    have HSR := Lib.hid (right_sorted h2)
    have hz20 : (numbersL xs).length ≤ 1000 := by omega
    have HCH := Lib.hid (fun (vN vD : Value) W (hW : Below w.heap.size w W) (hN : IntsAt W vN (numbersL xs)) => choose_v A c b off vD xs vi vd hlen hz20 hll HSR.out hA (hc.after hW) hN (hL.after hW))
    have HAS : Hid (askE xs ls d = if lettersB xs (numbersL xs) ls = false then 22 else if d ∈ numbersL xs then 0 else 6) := Lib.hid (by unfold askE; rw [if_neg (by simpa using h0)])
    generalize hae : askE xs ls d = ae at *
    have HDK : Hid (∀ W vN vD, IntsAt W vN (numbersL xs) → IntsAt W vD (chainsL xs (numbersL xs)) → DeskAt W xs vN vD) := Lib.hid (fun W vN vD h1 h2 => ⟨h1, h2⟩)
    obtain ⟨AL, cL, rfl⟩ := hL.slice
    clear hae h0 h2 h3 hr hA hc hL
    unfold DeskAt at HL
    generalize chainsL xs (numbersL xs) = cs at *
    generalize numbersL xs = zs at *
    go_enter Try.func73, Try.ntmps73
    go_wp2_with fail
    refine (HL.out _ (by (repeat' (first | (with_reducible first | exact Below.refl _ _ | assumption | refine Below.alloc ?_ ?_ _ | refine Below.setCell ?_ ?_ _ | refine below_row ?_ ?_ _ | refine Below.drew ?_ | refine below_drewN ?_ _ | refine Below.trans ?_ (Below.mono (by assumption) ?_)) | exact Nat.le_refl _ | omega | (simp; done) | (simp; omega) | exact Below.size (by assumption))))).mono ?_
    rintro e w1 ⟨⟨vN, vD, rfl, hN, hD⟩, hb1⟩
    have s1 := hb1.size; try simp only [World.size_alloc, World.size_setCell, World.size_drew, setRow_size] at s1
    have HI1 := Lib.hid (fun W (hW : Below w1.heap.size w1 W) => hN.after hW)
    have HJ1 := Lib.hid (fun W (hW : Below w1.heap.size w1 W) => hD.after hW)
    obtain ⟨AN, cN, rfl⟩ := hN.slice
    obtain ⟨AD, cD, rfl⟩ := hD.slice
    have HD1 := Lib.hid (HD0.out.after hb1)
    have hbw1 : Below w.heap.size w w1 := by (repeat' (first | (with_reducible first | exact Below.refl _ _ | assumption | refine Below.alloc ?_ ?_ _ | refine Below.setCell ?_ ?_ _ | refine below_row ?_ ?_ _ | refine Below.drew ?_ | refine below_drewN ?_ _ | refine Below.trans ?_ (Below.mono (by assumption) ?_)) | exact Nat.le_refl _ | omega | (simp; done) | (simp; omega) | exact Below.size (by assumption)))
    have LG := Lib.hid (Lies.made w1 118 #[.slice A xs.length c, .slice AN zs.length cN, .slice AD cs.length cD])
    have hd1 := HD1.out.lt
    clear hN hD hb1 HL HD0
    go_wp2_with fail
    refine (HCH.out _ _ _ (by (repeat' (first | (with_reducible first | exact Below.refl _ _ | assumption | refine Below.alloc ?_ ?_ _ | refine Below.setCell ?_ ?_ _ | refine below_row ?_ ?_ _ | refine Below.drew ?_ | refine below_drewN ?_ _ | refine Below.trans ?_ (Below.mono (by assumption) ?_)) | exact Nat.le_refl _ | omega | (simp; done) | (simp; omega) | exact Below.size (by assumption)))) (HI1.out _ (by (repeat' (first | (with_reducible first | exact Below.refl _ _ | assumption | refine Below.alloc ?_ ?_ _ | refine Below.setCell ?_ ?_ _ | refine below_row ?_ ?_ _ | refine Below.drew ?_ | refine below_drewN ?_ _ | refine Below.trans ?_ (Below.mono (by assumption) ?_)) | exact Nat.le_refl _ | omega | (simp; done) | (simp; omega) | exact Below.size (by assumption)))))).mono ?_
    rintro e w2 ⟨hp, hb2⟩
    have s2 := hb2.size; try simp only [World.size_alloc, World.size_setCell, World.size_drew, setRow_size] at s2
    have HD2 := Lib.hid ((HD1.out.alloc (.cells #[.slice A xs.length c, .slice AN zs.length cN, .slice AD cs.length cD] 118)).after hb2)
    have LG2 := Lib.hid (LG.out.after hb2)
    have hbw2 : Below w.heap.size w w2 := by (repeat' (first | (with_reducible first | exact Below.refl _ _ | assumption | refine Below.alloc ?_ ?_ _ | refine Below.setCell ?_ ?_ _ | refine below_row ?_ ?_ _ | refine Below.drew ?_ | refine below_drewN ?_ _ | refine Below.trans ?_ (Below.mono (by assumption) ?_)) | exact Nat.le_refl _ | omega | (simp; done) | (simp; omega) | exact Below.size (by assumption)))
    have hb12 : Below w1.heap.size w1 w2 := ((Below.refl w1.heap.size w1).alloc (Nat.le_refl _) _).trans (hb2.mono (by simp))
    have g0 := LG2.out.cell 0
    have g1 := LG2.out.cell 1
    have g2 := LG2.out.cell 2
    have zg := LG2.out.lt
    have r0 := HD2.out.cell 0
    have r1 := HD2.out.cell 1
    have r2 := HD2.out.cell 2
    have r3 := HD2.out.cell 3
    have m0 := HD2.out.free 0
    have m1 := HD2.out.free 1
    have m2 := HD2.out.free 2
    have m3 := HD2.out.free 3
    have zr := HD2.out.lt
    clear HD1 LG HCH
    rcases hp with ⟨hlb, vC, rfl, hown⟩ | ⟨hlb, rfl⟩
    · have HOW := Lib.hid hown
      obtain ⟨AC, cC, gC, rfl, -⟩ := own_form hown
      have HAS2 : Hid (ae = if d ∈ zs then 0 else 6) := Lib.hid (by rw [HAS.out, hlb]; rfl)
      have HP := Lib.hid (fun W (hW : Below w2.heap.size w2 W) => place_v (.slice A xs.length c) (.slice AD cs.length cD) d (HI1.out W (hb12.trans (hW.mono hb12.size))) HST.out hz20)
      clear hown hlb HAS hb2
      unfold PlaceAt at HP
      by_cases hd : d ∈ zs
      · have HAE : Hid (ae = 0) := Lib.hid (by rw [HAS2.out, if_pos hd])
        have hdd : decide (d ∈ zs) = true := decide_eq_true hd
        rw [hdd] at HP
        clear hd hdd HAS2
        go_wp2_with fail
        refine (HP.out _ (by (repeat' (first | (with_reducible first | exact Below.refl _ _ | assumption | refine Below.alloc ?_ ?_ _ | refine Below.setCell ?_ ?_ _ | refine below_row ?_ ?_ _ | refine Below.drew ?_ | refine below_drewN ?_ _ | refine Below.trans ?_ (Below.mono (by assumption) ?_)) | exact Nat.le_refl _ | omega | (simp; done) | (simp; omega) | exact Below.size (by assumption))))).mono ?_
        rintro e w3 ⟨r, -, -, -, rfl, hb3⟩
        have s3 := hb3.size; try simp only [World.size_alloc, World.size_setCell, World.size_drew, setRow_size] at s3
        have HD3 := Lib.hid (HD2.out.after hb3)
        have LG3 := Lib.hid (LG2.out.after hb3)
        have hbw3 : Below w.heap.size w w3 := by (repeat' (first | (with_reducible first | exact Below.refl _ _ | assumption | refine Below.alloc ?_ ?_ _ | refine Below.setCell ?_ ?_ _ | refine below_row ?_ ?_ _ | refine Below.drew ?_ | refine below_drewN ?_ _ | refine Below.trans ?_ (Below.mono (by assumption) ?_)) | exact Nat.le_refl _ | omega | (simp; done) | (simp; omega) | exact Below.size (by assumption)))
        have hb23 : Below w2.heap.size w2 w3 := by (repeat' (first | (with_reducible first | exact Below.refl _ _ | assumption | refine Below.alloc ?_ ?_ _ | refine Below.setCell ?_ ?_ _ | refine below_row ?_ ?_ _ | refine Below.drew ?_ | refine below_drewN ?_ _ | refine Below.trans ?_ (Below.mono (by assumption) ?_)) | exact Nat.le_refl _ | omega | (simp; done) | (simp; omega) | exact Below.size (by assumption)))
        have hb13 : Below w1.heap.size w1 w3 := hb12.trans (hb23.mono hb12.size)
        clear g0 g1 g2 zg r0 r1 r2 r3 m0 m1 m2 m3 zr hb3
        have g0 := LG3.out.cell 0
        have g1 := LG3.out.cell 1
        have g2 := LG3.out.cell 2
        have zg := LG3.out.lt
        have r0 := HD3.out.cell 0
        have r1 := HD3.out.cell 1
        have r2 := HD3.out.cell 2
        have r3 := HD3.out.cell 3
        have m0 := HD3.out.free 0
        have m1 := HD3.out.free 1
        have m2 := HD3.out.free 2
        have m3 := HD3.out.free 3
        have zr := HD3.out.lt
        clear r0 r1 r2 r3 m0 m1 m2 m3
        go_wp2_with (refine wpList_store_row rfl 130 _ _ rfl (w.heap.size + 1) #[.slice A xs.length c, .slice AN zs.length cN, .slice AD cs.length cD, .slice AC zs.length cC] rfl rfl _ _ (HD3.out) (by kernel_rfl) rfl (by kernel_rfl) ?_)
        have HK : ∀ k, k ≠ w.heap.size + 1 → (w3.setRow (w.heap.size + 1) #[.slice A xs.length c, .slice AN zs.length cN, .slice AD cs.length cD, .slice AC zs.length cC]).heap[k]? = w3.heap[k]? := fun k hk => setRow_other _ _ _ _ hk
        refine bodyPost_ret (results_cell_tmp rfl _ _ (w.heap.size + 1) _ _ _ _ rfl rfl (HD3.out.row _) Try.underlying130 rfl (by kernel_rfl)) rfl (HEP.out _ _ ⟨.inl ⟨HAE.out, _, _, _, rfl, HDK.out _ _ _ ((HI1.out w3 hb13).far HD3.out zero4_no HK) ((HJ1.out w3 hb13).far HD3.out zero4_no HK), chosen_of_own (own_at (own_after HOW.out hb23) (fun k hk => HK k (by have := (HOW.out.lt k hk).1; simp at this; omega)))⟩, below_row hbw3 (by omega) _⟩)
      · have HAE : Hid (ae = 6) := Lib.hid (by rw [HAS2.out, if_neg hd])
        have hdd : decide (d ∈ zs) = false := decide_eq_false hd
        rw [hdd] at HP
        clear hd hdd HAS2
        go_wp2_with fail
        refine (HP.out _ (by (repeat' (first | (with_reducible first | exact Below.refl _ _ | assumption | refine Below.alloc ?_ ?_ _ | refine Below.setCell ?_ ?_ _ | refine below_row ?_ ?_ _ | refine Below.drew ?_ | refine below_drewN ?_ _ | refine Below.trans ?_ (Below.mono (by assumption) ?_)) | exact Nat.le_refl _ | omega | (simp; done) | (simp; omega) | exact Below.size (by assumption))))).mono ?_
        rintro e w3 ⟨r, -, -, -, rfl, hb3⟩
        have s3 := hb3.size; try simp only [World.size_alloc, World.size_setCell, World.size_drew, setRow_size] at s3
        have HD3 := Lib.hid (HD2.out.after hb3)
        have hbw3 : Below w.heap.size w w3 := by (repeat' (first | (with_reducible first | exact Below.refl _ _ | assumption | refine Below.alloc ?_ ?_ _ | refine Below.setCell ?_ ?_ _ | refine below_row ?_ ?_ _ | refine Below.drew ?_ | refine below_drewN ?_ _ | refine Below.trans ?_ (Below.mono (by assumption) ?_)) | exact Nat.le_refl _ | omega | (simp; done) | (simp; omega) | exact Below.size (by assumption)))
        clear g0 g1 g2 zg r0 r1 r2 r3 m0 m1 m2 m3 zr hb3
        have r0 := HD3.out.cell 0
        have r1 := HD3.out.cell 1
        have r2 := HD3.out.cell 2
        have r3 := HD3.out.cell 3
        have m0 := HD3.out.free 0
        have m1 := HD3.out.free 1
        have m2 := HD3.out.free 2
        have m3 := HD3.out.free 3
        have zr := HD3.out.lt
        clear r0 r1 r2 r3 m0 m1 m2 m3
        go_wp2_with (refine wpList_store_row rfl 130 _ _ rfl (w.heap.size + 1) #[.slice none 0 0, .slice none 0 0, .slice none 0 0, .slice none 0 0] rfl rfl _ _ (HD3.out) (by kernel_rfl) rfl (by kernel_rfl) ?_)
        refine bodyPost_ret (results_cell_tmp rfl _ _ (w.heap.size + 1) _ _ _ _ rfl rfl (HD3.out.row _) Try.underlying130 rfl (by kernel_rfl)) rfl (HEP.out _ _ ⟨.inr ⟨by rw [HAE.out]; decide, by rw [HAE.out]; rfl⟩, below_row hbw3 (by omega) _⟩)
    · have HAE : Hid (ae = 22) := Lib.hid (by rw [HAS.out, if_pos hlb])
      clear HAS hlb hb2
      clear r0 r1 r2 r3 m0 m1 m2 m3
      go_wp2_with (refine wpList_store_row rfl 130 _ _ rfl (w.heap.size + 1) #[.slice none 0 0, .slice none 0 0, .slice none 0 0, .slice none 0 0] rfl rfl _ _ (HD2.out) (by kernel_rfl) rfl (by kernel_rfl) ?_)
      refine bodyPost_ret (results_cell_tmp rfl _ _ (w.heap.size + 1) _ _ _ _ rfl rfl (HD2.out.row _) Try.underlying130 rfl (by kernel_rfl)) rfl (HEP.out _ _ ⟨.inr ⟨by rw [HAE.out]; decide, by rw [HAE.out]; rfl⟩, below_row hbw2 (by omega) _⟩)
  · have HL := Lib.hid (fun W (hW : Below w.heap.size w W) => lay_err (HRG.out W hW) h0)
    have hne : (layE xs != 0) = true := by simpa using h0
    have HAE : Hid (askE xs ls d = layE xs) := Lib.hid (by unfold askE; rw [if_pos h0])
    have HN0 := Lib.hid h0
    generalize askE xs ls d = ae at *
    obtain ⟨AL, cL, rfl⟩ := hL.slice
    clear h0 hr hA hc hL
    generalize layE xs = ee at *
    go_enter Try.func73, Try.ntmps73
    go_wp2_with fail
    refine (HL.out _ (by (repeat' (first | (with_reducible first | exact Below.refl _ _ | assumption | refine Below.alloc ?_ ?_ _ | refine Below.setCell ?_ ?_ _ | refine below_row ?_ ?_ _ | refine Below.drew ?_ | refine below_drewN ?_ _ | refine Below.trans ?_ (Below.mono (by assumption) ?_)) | exact Nat.le_refl _ | omega | (simp; done) | (simp; omega) | exact Below.size (by assumption))))).mono ?_
    rintro e w1 ⟨rfl, hb1⟩
    have s1 := hb1.size; try simp only [World.size_alloc, World.size_setCell, World.size_drew, setRow_size] at s1
    have HD1 := Lib.hid (HD0.out.after hb1)
    have hbw1 : Below w.heap.size w w1 := by (repeat' (first | (with_reducible first | exact Below.refl _ _ | assumption | refine Below.alloc ?_ ?_ _ | refine Below.setCell ?_ ?_ _ | refine below_row ?_ ?_ _ | refine Below.drew ?_ | refine below_drewN ?_ _ | refine Below.trans ?_ (Below.mono (by assumption) ?_)) | exact Nat.le_refl _ | omega | (simp; done) | (simp; omega) | exact Below.size (by assumption)))
    have r0 := HD1.out.cell 0
    have r1 := HD1.out.cell 1
    have r2 := HD1.out.cell 2
    have r3 := HD1.out.cell 3
    have m0 := HD1.out.free 0
    have m1 := HD1.out.free 1
    have m2 := HD1.out.free 2
    have m3 := HD1.out.free 3
    have zr := HD1.out.lt
    clear hb1
    clear r0 r1 r2 r3 m0 m1 m2 m3
    go_wp2_with (refine wpList_store_row rfl 130 _ _ rfl (w.heap.size + 1) #[.slice none 0 0, .slice none 0 0, .slice none 0 0, .slice none 0 0] rfl rfl _ _ (HD1.out.alloc _) (by kernel_rfl) rfl (by kernel_rfl) ?_)
    refine bodyPost_ret (results_cell_tmp rfl _ _ (w.heap.size + 1) _ _ _ _ rfl rfl ((HD1.out.alloc _).row _) Try.underlying130 rfl (by kernel_rfl)) rfl (HEP.out _ _ ⟨.inr ⟨by rw [HAE.out]; exact HN0.out, by rw [HAE.out]; rfl⟩, below_row (hbw1.alloc hbw1.size _) (by omega) _⟩)
end
section
open Go.RowKit Go.Maps

theorem IMap.apart {W W' : World} {base2 : Nat} {e2 : TypeId} {size2 n2 m n : Nat} {v2 : Value} {xs2 : List Value} {S : Int → Int} (h : IMap W m n S) (h2 : W.ownsRow base2 e2 size2 v2 n2 xs2) (hg : W.grownBy W' v2.ownBlock) : IMap W' m n S := by
  refine h.kept (hg.block m h.lt ?_)
  intro hk2
  rcases h2.2 with ⟨rfl, _⟩ | ⟨g2, cap2, cur2, rfl, _, hh2, _⟩
  · simp [Value.ownBlock] at hk2
  · obtain rfl : m = g2 := by simpa [Value.ownBlock] using hk2
    exact h.ne (show Lies W m e2 cur2 from hh2) rfl
theorem walk_of {w w1 : World} {A : Option Addr} {c b off : Nat} {xs : List Iss} {ls : List Int} {vi vd : Nat → Value} {vN vD vC : Value} {rk : Int → Nat} (h0 : layE xs = 0) (hl : lettersB xs (numbersL xs) ls = true) (K : Kit xs (numbersL xs) (qOf xs (numbersL xs) ls) rk) (hb : Below w.heap.size w w1) (hc : IssRow w b off xs vi vd) (hD : DeskAt w1 xs vN vD) (hC : ChosenAt w1 vC xs vi vd (numbersL xs) ls) :
    Walk w1 (.agg #[.slice A xs.length c, vN, vD, vC]) xs (numbersL xs) (qOf xs (numbersL xs) ls) vi vd := by
  obtain ⟨-, h2, h3, -, -, -⟩ := layE_ok h0
  obtain ⟨h7, h8⟩ := lettersB_iff.1 hl
  refine ⟨fun d hd W hW => ?_, fun d hd => ?_, fun d hd => ?_⟩
  · refine issue_any _ vD xs vi vd (numbersL xs) ls d W ⟨_, _, _, rfl⟩ (hD.1.after hW) (hC.after hW) (numbers_strict h2) (by omega) h7 hd (fun p hp => ?_)
    have hq : qAt xs (numbersL xs) ls p < xs.length := by
      have := of_decide_eq_true (h8 p hp (by omega))
      unfold qAt
      rwa [List.getD_eq_getElem?_getD, List.getElem?_eq_getElem hp, List.getD_eq_getElem?_getD, List.getElem?_eq_getElem (by omega : p < ls.length)]
    exact hc.slices hq
  · rw [K.get hd]
    exact ((hc.after hb) _ (K.lt d hd)).2.2.2.2.2.2.1
  · exact (hc.slices (K.lt d hd)).2
/-- The parts among the first j drawings. -/
def partsJ (zs : List Int) (S : Int → Int) (j : Nat) : List (Int × Int) := ((zs.take j).filter fun z => decide (0 < S z)).map fun z => (z, S z)
theorem partsJ_step {zs : List Int} {S : Int → Int} {j : Nat} (h : j < zs.length) : partsJ zs S (j + 1) = partsJ zs S j ++ if 0 < S zs[j] then [(zs[j], S zs[j])] else [] := by
  unfold partsJ
  rw [List.take_succ_eq_append_getElem h, List.filter_append, List.map_append]
  congr 1
  by_cases e : 0 < S zs[j] <;> simp [e]
theorem partsJ_le (zs : List Int) (S : Int → Int) (j : Nat) : (partsJ zs S j).length ≤ j := by
  unfold partsJ
  rw [List.length_map]
  exact Nat.le_trans (List.length_filter_le _ _) (List.length_take_le _ _)
/-- What Explode tells. -/
def explL (xs : List Iss) (ls : List Int) (d : Int) : List (Int × Int) := if askE xs ls d = 0 then partsL xs (numbersL xs) (qOf xs (numbersL xs) ls) d else []
def ExplP (ae : Int) (l : List (Int × Int)) (w : World) (e : Ending) (w' : World) : Prop := ∃ v, e = .returned (.tuple #[v, .int .i64 ae]) ∧ ItemsAt w' v l ∧ Below w.heap.size w w'

set_option maxRecDepth 100000 in
set_option maxHeartbeats 8000000 in
theorem sExplode_any {vI vL : Value} {xs : List Iss} {ls : List Int} {w : World} (d : Int) (h : RegAt w vI xs) (hL : IntsAt w vL ls) (hll : ls.length ≤ 9223372036854775807) :
    Calls Try.prog 32 #[.agg #[vI], vL, .int .i64 d] w (ExplP (askE xs ls d) (explL xs ls d) w) := by
  obtain ⟨A, c, b, off, vi, vd, rfl, hA, hc⟩ := h.at_.row
  have HEQ := Lib.hid (fun W (hW : Below w.heap.size w W) => equip_any A c b off vL xs ls d vi vd W (h.after hW) hll hA (hc.after hW) (hL.after hW))
  have HC := Lib.hid hc
  obtain ⟨AL, cL, rfl⟩ := hL.slice
  unfold explL
  by_cases h0 : askE xs ls d = 0
  · obtain ⟨h1, h2, h3⟩ := askE_ok h0
    have K := kit_of h1 h2
    have HK := Lib.hid K
    have HWK := Lib.hid (fun w1 vN vD vC (hb : Below w.heap.size w w1) (hD : DeskAt w1 xs vN vD) (hC : ChosenAt w1 vC xs vi vd (numbersL xs) ls) => walk_of (A := A) (c := c) h1 h2 K hb HC.out hD hC)
    have hz20 : (numbersL xs).length ≤ 20 := (layE_ok h1).2.2.1
    have HNIN := Lib.hid (numbers_nin (layE_ok h1).2.1)
    rw [if_pos h0]
    unfold EquipP at HEQ
    rw [h0] at HEQ ⊢
    have HEQ2 : Hid (∀ W, Below w.heap.size w W → Calls Try.prog 73 #[.agg #[.slice A xs.length c], .slice AL ls.length cL, .int .i64 d] W fun e w' => (∃ vN vD vC, e = .returned (.tuple #[.agg #[.slice A xs.length c, vN, vD, vC], .int .i64 0]) ∧ DeskAt w' xs vN vD ∧ ChosenAt w' vC xs vi vd (numbersL xs) ls) ∧ Below W.heap.size W w') :=
      Lib.hid (fun W hW => (HEQ.out W hW).mono (fun e w' ⟨hp, hb⟩ => ⟨hp.elim (fun h => h.2) (fun h => absurd rfl h.1), hb⟩))
    have HDL : Hid (∀ w1 vN vD, DeskAt w1 xs vN vD → IntsAt w1 vN (numbersL xs) ∧ ∃ n A c, vD = .slice A n c) := Lib.hid (fun w1 vN vD hD => ⟨hD.1, by obtain ⟨A, c, e⟩ := hD.2.slice; exact ⟨_, A, c, e⟩⟩)
    have HPL : Hid (∀ S, (∀ y, S y = sumL (addsL xs (qOf xs (numbersL xs) ls) 6 d 1) y) → partsJ (numbersL xs) S (numbersL xs).length = partsL xs (numbersL xs) (qOf xs (numbersL xs) ls) d) := Lib.hid (fun S hS => by
      unfold partsJ partsL
      rw [List.take_length]
      rw [show S = fun y => sumL (addsL xs (qOf xs (numbersL xs) ls) 6 d 1) y from funext hS])
    have hrk := K.le d h3
    have HRK := Lib.hid hrk
    have HD3 := Lib.hid h3
    obtain ⟨i0, hi, hz0, hz1, hz2⟩ := info_parts infoI
    have hmm := @run_makeMap Try.prog
    have hmf : ∀ (fn : Fn) (first cap : Array Value) (w : World), (Instr.makeFunc fn first cap).run Try.prog w = .ok (.func fn first cap) w := fun _ _ _ _ => rfl
    clear HEQ h0 h1 h2 h3 K h hL hA hc hrk HC
    generalize partsL xs (numbersL xs) (qOf xs (numbersL xs) ls) d = PL at *
    generalize qOf xs (numbersL xs) ls = q at *
    generalize numbersL xs = zs at *
    go_enter Try.func32, Try.ntmps32
    go_wp2_with fail
    refine (HEQ2.out _ (by (repeat' (first | (with_reducible first | exact Below.refl _ _ | assumption | refine Below.alloc ?_ ?_ _ | refine Below.setCell ?_ ?_ _ | refine below_row ?_ ?_ _ | refine Below.drew ?_ | refine below_drewN ?_ _ | refine Below.trans ?_ (Below.mono (by assumption) ?_)) | exact Nat.le_refl _ | omega | (simp; done) | (simp; omega) | exact Below.size (by assumption))))).mono ?_
    rintro e w1 ⟨⟨vN, vD, vC, rfl, hD, hC⟩, hb1⟩
    have s1 := hb1.size; try simp only [World.size_alloc, World.size_setCell, World.size_drew, setRow_size] at s1
    have hbw1 : Below w.heap.size w w1 := by (repeat' (first | (with_reducible first | exact Below.refl _ _ | assumption | refine Below.alloc ?_ ?_ _ | refine Below.setCell ?_ ?_ _ | refine below_row ?_ ?_ _ | refine Below.drew ?_ | refine below_drewN ?_ _ | refine Below.trans ?_ (Below.mono (by assumption) ?_)) | exact Nat.le_refl _ | omega | (simp; done) | (simp; omega) | exact Below.size (by assumption)))
    have HW := Lib.hid (HWK.out w1 vN vD vC hbw1 hD hC)
    obtain ⟨hN, nD, AD, cD, rfl⟩ := HDL.out _ _ _ hD
    obtain ⟨AN, cN, bN, oN, rfl, hAN, hcN⟩ := hN
    obtain ⟨AC, cC, rfl⟩ := hC.slice
    have HAN := Lib.hid hAN
    have HCN := Lib.hid (fun W (hW : Below w1.heap.size w1 W) i (h : i < zs.length) => cell_keep hW (hcN i h))
    clear hD hC hb1 hAN hcN HDL HWK HEQ2
    go_wp2_with fail
    obtain ⟨wB, hwB⟩ : ∃ W, ((((w1.alloc (.cells #[.slice A xs.length c, .slice AN zs.length cN, .slice AD nD cD, .slice AC zs.length cC] 130)).alloc (.map #[] 0)).alloc (.cells #[.map (some (w1.heap.size + 1))] 100)).alloc (.cells #[.func (.func 74) #[] #[.pointer (some ⟨w1.heap.size, 0, none⟩), .pointer (some ⟨w1.heap.size + 1 + 1, 0, none⟩), .pointer (some ⟨w1.heap.size + 1 + 1 + 1, 0, none⟩)]] 133)) = W := ⟨_, rfl⟩
    have hsB : wB.heap.size = w1.heap.size + 4 := by rw [← hwB]; simp
    have M1 : Lies wB w1.heap.size 130 #[.slice A xs.length c, .slice AN zs.length cN, .slice AD nD cD, .slice AC zs.length cC] := by rw [← hwB]; exact (((Lies.made _ _ _).alloc _).alloc _).alloc _
    have M2 : Lies wB (w1.heap.size + 1 + 1) 100 #[.map (some (w1.heap.size + 1))] := by rw [← hwB]; exact (Lies.new (by simp)).alloc _
    have M3 : Lies wB (w1.heap.size + 1 + 1 + 1) 133 #[.func (.func 74) #[] #[.pointer (some ⟨w1.heap.size, 0, none⟩), .pointer (some ⟨w1.heap.size + 1 + 1, 0, none⟩), .pointer (some ⟨w1.heap.size + 1 + 1 + 1, 0, none⟩)]] := by rw [← hwB]; exact Lies.new (by simp)
    have MM : IMap wB (w1.heap.size + 1) 0 (fun _ => 0) := by rw [← hwB]; have h5 := IMap.made (w1.alloc (.cells #[.slice A xs.length c, .slice AN zs.length cN, .slice AD nD cD, .slice AC zs.length cC] 130)); rw [World.size_alloc] at h5; exact (h5.alloc _).alloc _
    have hbB : Below w1.heap.size w1 wB := by rw [← hwB]; (repeat' (first | (with_reducible first | exact Below.refl _ _ | assumption | refine Below.alloc ?_ ?_ _ | refine Below.setCell ?_ ?_ _ | refine below_row ?_ ?_ _ | refine Below.drew ?_ | refine below_drewN ?_ _ | refine Below.trans ?_ (Below.mono (by assumption) ?_)) | exact Nat.le_refl _ | omega | (simp; done) | (simp; omega) | exact Below.size (by assumption)))
    have HSB := Lib.hid hsB
    have HM1 := Lib.hid M1
    have HM2 := Lib.hid M2
    have HM3 := Lib.hid M3
    have HMM := Lib.hid MM
    have HBB := Lib.hid hbB
    have HAD := Lib.hid (fun v0 v1 v2 v3 (e : (Value.agg #[.slice A xs.length c, .slice AN zs.length cN, .slice AD nD cD, .slice AC zs.length cC]) = .agg #[v0, v1, v2, v3]) => (by trivial : True))
    have HCALL := Lib.hid (add_any w1.heap.size (w1.heap.size + 1 + 1) (w1.heap.size + 1 + 1 + 1) (w1.heap.size + 1) HK.out HW.out (by omega) 6 d 1 wB 0 (fun _ => 0) HD3.out HRK.out (by omega) (by decide) (fun y => by unfold bigT; decide) hbB M1 M2 M3 MM)
    have hs4 : w1.heap.size + 4 ≤ wB.heap.size := by omega
    clear hsB M1 M2 M3 MM hbB HAD
    rw [hwB]
    clear hwB
    refine HCALL.out.mono ?_
    rintro e w2 ⟨⟨v, rfl⟩, hm2, hg2⟩
    have HS0 : Hid (∃ S : Int → Int, ∀ y, S y = sumL (addsL xs q 6 d 1) y) := Lib.hid ⟨_, fun _ => rfl⟩
    obtain ⟨S, hS⟩ := HS0.out
    have HPLS := Lib.hid (HPL.out S hS)
    have HMS := Lib.hid (hm2.ext (T := S) (fun y _ => by rw [hS]; omega))
    have HL2 := Lib.hid (lies_grown1 HM2.out hg2 (by omega))
    have HL1 := Lib.hid (lies_grown1 HM1.out hg2 (by omega))
    have hb12 : Below w1.heap.size w1 w2 := grown_below HBB.out hg2 (by omega) (by have := HBB.out.size; omega)
    have hz12 := hb12.size
    have hbw2 : Below w.heap.size w w2 := hbw1.trans (hb12.mono hbw1.size)
    have hSB : ∀ y, 0 ≤ S y ∧ S y ≤ 1000000000000000 := fun y => by
      have h5 := adds_bd HK.out y 6 d HD3.out 1 (by omega)
      rw [hS]
      exact ⟨h5.1, Int.le_trans h5.2 (by decide)⟩
    have HSBD := Lib.hid hSB
    have u0 := HL1.out.cell 1
    have zu := HL1.out.lt
    have ha37 : adb 6 ≤ 100000 := by decide
    clear hS hm2 hg2 HPL HS0 HMM HM1 HM2 HM3 HCALL HSB HBB hSB
    generalize adb 6 = n6 at *
    go_wp2_with fail
    go_loopw [12, 34] (fun v i wr => ∃ (k : Nat) (AO : Option Addr) (cO : Nat), k ≤ zs.length ∧ i = .int .i64 k ∧ v = .slice AO (partsJ zs S k).length cO ∧ Hid (wr.ownsRow w1.heap.size 52 2 (.slice AO (partsJ zs S k).length cO) (partsJ zs S k).length (cellsI (partsJ zs S k))) ∧ Hid (IMap wr (w1.heap.size + 1) (0 + n6) S) ∧ Hid (Lies wr (w1.heap.size + 1 + 1) 100 #[.map (some (w1.heap.size + 1))]) ∧ Below w1.heap.size w1 wr) (fun _ i _ => zs.length - (intOf i).toNat)
    case atStart => exact ⟨0, none, 0, by omega, rfl, rfl, Lib.hid (World.ownsRow_nil _ _ _ _), HMS, HL2, hb12⟩
    case round =>
      obtain ⟨k, AO, cO, hk, rfl, rfl, HO, HM, HG, hb⟩ := hrel
      have hzz := hb.size
      have hle := partsJ_le zs S k
      have zc := cellsI_len (partsJ zs S k)
      have g0 := HG.out.cell 0
      have zg := HG.out.lt
      by_cases hlt : k < zs.length
      · obtain rfl := HAN.out (by omega)
        have z0 := HCN.out wr hb k hlt
        have kl1 : (k : Int) < (zs.length : Int) := by omega
        have hN := HNIN.out zs[k] (List.getElem_mem hlt)
        have hlk := HM.out.look hN
        have HST := Lib.hid (partsJ_step (S := S) hlt)
        have hsb := HSBD.out zs[k]
        have HSK : Hid (∃ sk zk, S zs[k] = sk ∧ zs[k] = zk) := Lib.hid ⟨_, _, rfl, rfl⟩
        obtain ⟨sk, zk, hsk, hzk⟩ := HSK.out
        rw [hsk] at hlk hsb HST
        rw [hzk] at hlk z0 HST hN
        clear hsk hzk HSK
        generalize partsJ zs S k = pj at *
        by_cases hp : 0 < sk
        · have HST2 : Hid (partsJ zs S (k + 1) = pj ++ [(zk, sk)]) := Lib.hid (by rw [HST.out, if_pos hp])
          have HCI : Hid (cellsI pj ++ [.int .i64 zk, .int .i64 sk] = cellsI (pj ++ [(zk, sk)])) := Lib.hid (by simp [cellsI])
          clear HST
          go_wp2_with (at_builtin; refine wpList_append_own _ rfl _ _ 42 rfl w1.heap.size 52 i0 (.agg #[.int .i64 0, .int .i64 0]) 2 16 Try.underlying42 hi hz0 hz1 hz2 rfl (by decide) _ _ _ rfl (HO.out.alloc _) ⟨wr.heap.size, 0, none⟩ 1 1 [.int .i64 zk, .int .i64 sk] rfl rfl (World.news_of_block (Lies.made _ _ _)) (by simp [Value.oneCell']) (by unfold maxLen; omega) (by omega) (by simp; omega) ?_; intro v' w5 hown' hgrow _; have HB5 := Lib.hid (below_own (w0 := w1) (B := w1.heap.size) (by (repeat' (first | (with_reducible first | exact Below.refl _ _ | assumption | refine Below.alloc ?_ ?_ _ | refine Below.setCell ?_ ?_ _ | refine below_row ?_ ?_ _ | refine Below.drew ?_ | refine below_drewN ?_ _ | refine Below.trans ?_ (Below.mono (by assumption) ?_)) | exact Nat.le_refl _ | omega | (simp; done) | (simp; omega) | exact Below.size (by assumption)))) (HO.out.alloc _) hgrow (Nat.le_refl _) (by simp; omega)); have HG5 := Lib.hid (lies_apart (HG.out.alloc _) (HO.out.alloc _) (by decide) hgrow); have HM5 := Lib.hid ((HM.out.alloc _).apart (HO.out.alloc _) hgrow); rw [HCI.out] at hown'; have HO5 := Lib.hid hown'; obtain ⟨A5, c5, g5, rfl, -⟩ := own_form hown'; clear hown' hgrow)
          go_roundw
          case rel => exact ⟨k + 1, A5, c5, by omega, by go_num, by rw [HST2.out]; simp, Lib.hid (by rw [HST2.out]; simpa using HO5.out), HM5, HG5, HB5.out⟩
          case measure => simp [intOf]; omega
        · have HST2 : Hid (partsJ zs S (k + 1) = pj) := Lib.hid (by rw [HST.out, if_neg hp, List.append_nil])
          clear HST
          go_wp2_with fail
          go_roundw
          case rel => exact ⟨k + 1, AO, cO, by omega, by go_num, by rw [HST2.out], Lib.hid (by rw [HST2.out]; exact HO.out), HM, HG, hb⟩
          case measure => simp [intOf]; omega
      · have hke : k = zs.length := by omega
        have HR : Hid (ItemsAt wr (.slice AO (partsJ zs S k).length cO) PL) := Lib.hid (by have := items_of_own HO.out; rw [hke] at this ⊢; rw [HPLS.out] at this ⊢; exact this)
        have hbwr : Below w.heap.size w wr := hbw1.trans (hb.mono hbw1.size)
        have kl0 : ¬ (k : Int) < (zs.length : Int) := by omega
        clear hke
        go_wp2_with fail
        go_ret2
        exact ⟨_, rfl, HR.out, hbwr⟩
  · rw [if_neg h0]
    have HEQ2 : Hid (∀ W, Below w.heap.size w W → Calls Try.prog 73 #[.agg #[.slice A xs.length c], .slice AL ls.length cL, .int .i64 d] W fun e w' => e = .returned (.tuple #[zOut, .int .i64 (askE xs ls d)]) ∧ Below W.heap.size W w') :=
      Lib.hid (fun W hW => (HEQ.out W hW).mono (fun e w' ⟨hp, hb⟩ => ⟨hp.elim (fun h => absurd h.1 h0) (fun h => h.2), hb⟩))
    have hne : (askE xs ls d != 0) = true := by simpa using h0
    clear HEQ h0 h hL hA hc HC
    generalize askE xs ls d = ae at *
    go_enter Try.func32, Try.ntmps32
    go_wp2_with fail
    refine (HEQ2.out _ (by (repeat' (first | (with_reducible first | exact Below.refl _ _ | assumption | refine Below.alloc ?_ ?_ _ | refine Below.setCell ?_ ?_ _ | refine below_row ?_ ?_ _ | refine Below.drew ?_ | refine below_drewN ?_ _ | refine Below.trans ?_ (Below.mono (by assumption) ?_)) | exact Nat.le_refl _ | omega | (simp; done) | (simp; omega) | exact Below.size (by assumption))))).mono ?_
    rintro e w1 ⟨rfl, hb1⟩
    have s1 := hb1.size; try simp only [World.size_alloc, World.size_setCell, World.size_drew, setRow_size] at s1
    go_wp2_with fail
    go_ret2
    exact ⟨_, rfl, ⟨none, 0, 0, 0, rfl, fun h => absurd h (by simp), fun i h => absurd h (by simp)⟩, by (repeat' (first | (with_reducible first | exact Below.refl _ _ | assumption | refine Below.alloc ?_ ?_ _ | refine Below.setCell ?_ ?_ _ | refine below_row ?_ ?_ _ | refine Below.drew ?_ | refine below_drewN ?_ _ | refine Below.trans ?_ (Below.mono (by assumption) ?_)) | exact Nat.le_refl _ | omega | (simp; done) | (simp; omega) | exact Below.size (by assumption)))⟩
end
end Go.Proofs.Ytkjfceajakhlfaa
