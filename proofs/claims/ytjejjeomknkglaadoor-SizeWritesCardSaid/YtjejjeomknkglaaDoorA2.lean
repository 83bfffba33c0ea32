/- The walks of package size: first over sizes, checkAll, Inside, Fit, Room. -/
import Derived.Test.YtjejjeomknkglaaDoorA1
namespace Go.Proofs.YtjejjeomknkglaaDoor
set_option linter.unusedVariables false
set_option linter.unusedSimpArgs false
open Go.RowKit

abbrev D3 := Int × Int × Int

def cellsD (w : World) (b off : Nat) (ds : List D3) : Prop :=
  ∀ i (h : i < ds.length), w.cell? ⟨b, off + i * 3, none⟩ = some (.int .i64 ds[i].1) ∧ w.cell? ⟨b, off + i * 3 + 1, none⟩ = some (.int .i64 ds[i].2.1) ∧ w.cell? ⟨b, off + i * 3 + 2, none⟩ = some (.int .i64 ds[i].2.2)

/-- One of the sizes is not valid. -/
def badD (ds : List D3) : Bool := ds.any fun d => !okD d.1 d.2.1 d.2.2
theorem badD_yes {ds : List D3} {k : Nat} (h : k < ds.length) (hn : okD ds[k].1 ds[k].2.1 ds[k].2.2 = false) : badD ds = true := by
  unfold badD
  rw [List.any_eq_true]
  exact ⟨ds[k], List.getElem_mem h, by rw [hn]; rfl⟩
theorem badD_no {ds : List D3} (h : ∀ k (hk : k < ds.length), okD ds[k].1 ds[k].2.1 ds[k].2.2 = true) : badD ds = false := by
  unfold badD
  rw [List.any_eq_false]
  intro x hx
  obtain ⟨k, hk, rfl⟩ := List.getElem_of_mem hx
  simp [h k hk]

def FoundD (r : Bool) (w : World) (e : Ending) (w' : World) : Prop := ∃ p q s : Int, e = .returned (.tuple #[.agg #[.int .i64 p, .int .i64 q, .int .i64 s], .bool r]) ∧ Below w.heap.size w w'

set_option maxHeartbeats 400000 in
theorem firstD_any (A : Option Addr) (b off : Nat) (ds : List D3) (c : Nat) (w : World) (hA : 0 < ds.length → A = some ⟨b, off, none⟩) (hl : ds.length ≤ 1000) (hc : cellsD w b off ds) :
    Calls Tryd.prog 65 #[.slice A ds.length c, .func (.func 66) #[] #[]] w (FoundD (badD ds) w) := by
  have HC := Lib.hid hc; clear hc
  have HA := Lib.hid hA; clear hA
  go_enter Tryd.func65, Tryd.ntmps65
  go_wp2
  go_loopw [11] (fun i wr => ∃ k : Nat, k ≤ ds.length ∧ i = .int .i64 k ∧ Hid (∀ j (_ : j < k) (h : j < ds.length), okD ds[j].1 ds[j].2.1 ds[j].2.2 = true) ∧ Below w.heap.size w wr ∧ Lies wr w.heap.size 23 #[.int .i64 0, .int .i64 0, .int .i64 0]) (fun i _ => ds.length - (intOf i).toNat)
  case atStart => exact ⟨0, by omega, rfl, Lib.hid (fun j hj => by omega), (Below.refl _ _).alloc (Nat.le_refl _) _, Lies.made _ _ _⟩
  case round =>
    obtain ⟨k, hk, rfl, hj, hb, hL⟩ := hrel
    have hz := hL.lt
    have hz' := hb.size
    have c0 := hL.cell 0
    have c1 := hL.cell 1
    have c2 := hL.cell 2
    have f0 := hL.free 0
    have f1 := hL.free 1
    have f2 := hL.free 2
    by_cases hlt : k < ds.length
    · obtain rfl := HA.out (by omega)
      obtain ⟨q0, q1, q2⟩ := HC.out k hlt
      have hbl : b < w.heap.size := World.block_lt_of_cell? w _ q0
      have r0 := (hb.cell (p := ⟨b, off + k * 3, none⟩) hbl).trans q0
      have r1 := (hb.cell (p := ⟨b, off + k * 3 + 1, none⟩) hbl).trans q1
      have r2 := (hb.cell (p := ⟨b, off + k * 3 + 2, none⟩) hbl).trans q2
      clear q0 q1 q2
      generalize hd : ds[k] = d at *
      obtain ⟨dn, dl, du⟩ := d
      simp only at r0 r1 r2
      have Hd := Lib.hid hd; clear hd
      go_wp2_with fail
      refine (checkAll1_any dn dl du _).mono ?_
      rintro e w1 ⟨rfl, hb1⟩
      obtain ⟨hc1, hf1⟩ := bcell hb1
      have hb2 := ((hb.trans (((Below.refl wr.heap.size wr).alloc (Nat.le_refl _) _).mono hz')).trans (hb1.mono (by simp; omega)))
      have hL2 := (hL.alloc _).after hb1
      have hs1 := hb1.size
      rw [World.size_alloc] at hs1
      by_cases hok : okD dn dl du = true
      · go_wp2
        go_roundw
        case rel =>
          refine ⟨k + 1, by omega, by go_num, Lib.hid (fun j hj' h => ?_), hb2, hL2⟩
          by_cases e : j = k
          · subst e; rw [Hd.out]; exact hok
          · exact hj.out j (by omega) h
        case measure => simp [intOf]; omega
      · have hok' : okD dn dl du = false := by simpa using hok
        clear hok
        have k0 := hL2.cell 0
        have k1 := hL2.cell 1
        have k2 := hL2.cell 2
        have g0 := hL2.free 0
        have g1 := hL2.free 1
        have g2 := hL2.free 2
        have hz2 := hL2.lt
        have hbad := badD_yes hlt (by rw [Hd.out]; exact hok')
        go_wp2
        refine bodyPost_ret (v := .tuple #[.agg #[.int .i64 dn, .int .i64 dl, .int .i64 du], .bool true]) (by simp [results, Tryd.results65, go_sem, k0, k1, k2]) rfl ?_
        rw [hbad]
        exact ⟨_, _, _, rfl, ((hb2.setCell (p := ⟨w.heap.size, 0, none⟩) (Nat.le_refl _) _).setCell (p := ⟨w.heap.size, 1, none⟩) (Nat.le_refl _) _).setCell (p := ⟨w.heap.size, 2, none⟩) (Nat.le_refl _) _⟩
    · have hok := badD_no fun j h => hj.out j (by omega) h
      go_wp2
      refine bodyPost_ret (v := .tuple #[.agg #[.int .i64 0, .int .i64 0, .int .i64 0], .bool false]) (by simp [results, Tryd.results65, go_sem, hz, c0, c1, c2]) rfl ?_
      rw [hok]
      exact ⟨_, _, _, rfl, (((hb.setCell (p := ⟨w.heap.size, 0, none⟩) (Nat.le_refl _) _).setCell (p := ⟨w.heap.size, 1, none⟩) (Nat.le_refl _) _).setCell (p := ⟨w.heap.size, 2, none⟩) (Nat.le_refl _) _).alloc (by simp; omega) _⟩

set_option maxHeartbeats 400000 in
theorem checkAll_any (A : Option Addr) (b off : Nat) (ds : List D3) (c : Nat) (w : World) (hA : 0 < ds.length → A = some ⟨b, off, none⟩) (hl : ds.length ≤ 1000) (hc : cellsD w b off ds) :
    Calls Tryd.prog 55 #[.slice A ds.length c] w fun e w' => e = .returned (.int .i64 (if badD ds = true then 10 else 0)) ∧ Below w.heap.size w w' := by
  by_cases hb : badD ds = true
  · rw [if_pos hb]
    go_enter Tryd.func55, Tryd.ntmps55
    go_wp2_with fail
    refine (firstD_any A b off ds c _ hA hl hc).mono ?_
    rw [hb]
    rintro e w1 ⟨p, q, s, rfl, hb1⟩
    go_wp2
    go_ret
    exact ⟨rfl, hb1.alloc hb1.size _⟩
  · rw [if_neg hb]
    have hb' : badD ds = false := by simpa using hb
    go_enter Tryd.func55, Tryd.ntmps55
    go_wp2_with fail
    refine (firstD_any A b off ds c _ hA hl hc).mono ?_
    rw [hb']
    rintro e w1 ⟨p, q, s, rfl, hb1⟩
    go_wp2
    go_ret
    exact ⟨rfl, hb1.alloc hb1.size _⟩

theorem checkAll_2 (an al au bn bl bu : Int) (g : Nat) (c : Nat) (w : World) (h0 : w.cell? ⟨g, 0, none⟩ = some (.int .i64 an)) (h1 : w.cell? ⟨g, 1, none⟩ = some (.int .i64 al)) (h2 : w.cell? ⟨g, 2, none⟩ = some (.int .i64 au))
    (h3 : w.cell? ⟨g, 3, none⟩ = some (.int .i64 bn)) (h4 : w.cell? ⟨g, 4, none⟩ = some (.int .i64 bl)) (h5 : w.cell? ⟨g, 5, none⟩ = some (.int .i64 bu)) :
    Calls Tryd.prog 55 #[.slice (some ⟨g, 0, none⟩) 2 c] w fun e w' => e = .returned (.int .i64 (if badD [(an, al, au), (bn, bl, bu)] = true then 10 else 0)) ∧ Below w.heap.size w w' :=
  checkAll_any (some ⟨g, 0, none⟩) g 0 [(an, al, au), (bn, bl, bu)] c w (fun _ => rfl) (by simp) (fun i h => by
    match i, h with
    | 0, _ => exact ⟨h0, h1, h2⟩
    | 1, _ => exact ⟨h3, h4, h5⟩)

end Go.Proofs.YtjejjeomknkglaaDoor
