/-
  Contracts of the decimal form of chapter 1. Conditions: those that each theorem states.
-/
import Derived.Test.YtnlkikdgffaeeaaDoorBa
import Derived.Lib.ItoaNum
import Derived.Laws.OwnMore
import Derived.Laws.BytesArg
import Derived.Deep.AppendLies
import Derived.OwnWalk
namespace Go.Proofs.YtnlkikdgffaeeaaDoor
open Go.RowKit
set_option linter.unusedVariables false

def revD (u : Nat) : List UInt8 := if h : u = 0 then [] else UInt8.ofNat (48 + u % 10) :: revD (u / 10)
termination_by u
decreasing_by omega
theorem revD_zero : revD 0 = [] := by rw [revD]; simp
theorem revD_pos {u : Nat} (h : u ≠ 0) : revD u = UInt8.ofNat (48 + u % 10) :: revD (u / 10) := by rw [revD, dif_neg h]
theorem revD_len : ∀ (k u : Nat), u < 10 ^ k → (revD u).length ≤ k
  | 0, u, h => by simp at h; subst h; simp [revD_zero]
  | k + 1, u, h => by
    by_cases e : u = 0
    · subst e; simp [revD_zero]
    · rw [revD_pos e, List.length_cons]
      have := revD_len k (u / 10) (by rw [Nat.pow_succ] at h; omega)
      omega
theorem dec_rev : ∀ u : Nat, u ≠ 0 → Lib.decDigits u = (revD u).reverse := by
  intro u
  induction u using Nat.strongRecOn with
  | _ u ih =>
    intro h
    rw [Lib.decDigits, revD_pos h]
    by_cases hu : u < 10
    · rw [dif_pos hu, show u / 10 = 0 by omega, revD_zero, Nat.mod_eq_of_lt hu]; rfl
    · rw [dif_neg hu, ih (u / 10) (by omega) (by omega), List.reverse_cons]
def bytesV (l : List UInt8) : List Value := l.map fun b => Value.int .u8 (b.toNat : Int)
theorem bytesV_len (l : List UInt8) : (bytesV l).length = l.length := by simp [bytesV]
theorem info_u8 : (Tryd.prog.info? 5).map (fun i => (i.zero, i.size, i.bytes)) = some (some (.int .u8 0), 1, 1) := by kernel_rfl

theorem lenD {U : Nat} (hU : (U : Int) ≤ 9223372036854775808) : (revD U).length ≤ 19 := revD_len 19 U (by omega)
def DecR (U B : Nat) (sg : Int) (W : World) (a m : Value) (wr : World) : Prop :=
  ∃ (u : Nat) (ds : List UInt8), Hid (ds ++ revD u = revD U) ∧ u ≤ U ∧ m = .int .i64 (sg * (u : Int)) ∧ wr.ownsRow B 5 1 a ds.length (bytesV ds) ∧ Below B W wr
def OutR (L : List UInt8) (B B2 : Nat) (W W2 : World) (a b : Value) (i : Value) (wr : World) : Prop :=
  ∃ j : Nat, j ≤ L.length ∧ i = .int .i64 ((j : Int) - 1) ∧ wr.ownsRow B2 5 1 b (L.length - j) (bytesV (L.drop j).reverse) ∧ Below B W wr ∧ Below B2 W2 wr ∧ B2 ≤ wr.heap.size
theorem strOf (L : List UInt8) : strOfNums (L.map fun b => (b.toNat : Int)) = ⟨L.toArray⟩ := by
  unfold strOfNums
  congr 1
  rw [← Array.toList_inj]; simp [Function.comp_def]
theorem u8_dig (u : Nat) : Value.int .u8 (48 + (u : Int) % 10) = .int .u8 ((UInt8.ofNat (48 + u % 10)).toNat : Int) := by
  congr 1
  rw [UInt8.toNat_ofNat']
  omega
theorem step_dec {U u : Nat} {ds : List UInt8} (h : ds ++ revD u = revD U) (hu : u ≠ 0) : (ds ++ [UInt8.ofNat (48 + u % 10)]) ++ revD (u / 10) = revD U := by
  rw [← h, revD_pos hu]; simp
theorem len_dec {U u : Nat} {ds : List UInt8} (h : ds ++ revD u = revD U) (hU : (U : Int) ≤ 9223372036854775808) : ds.length ≤ 19 := by
  have := lenD hU; rw [← h] at this; simp at this; omega

set_option maxHeartbeats 2000000 in
set_option maxRecDepth 100000 in
theorem l01Dec_pos (U : Nat) (w : World) (hU : (U : Int) ≤ 9223372036854775807) (h0 : U ≠ 0) :
    Calls Tryd.prog 31 #[.int .i64 (U : Int)] w fun e w' => e = .returned (.string ⟨(Lib.itoa (U : Int)).toArray⟩) ∧ Below w.heap.size w w' := by
  obtain ⟨i0, hi, hz0, hz1, hz2⟩ := info_parts info_u8
  have h00 : (U : Int) ≠ 0 := by omega
  have h01 : ((U : Int) == 0) = false := by simpa using h0
  have hs : ¬ ((U : Int) < 0) := by omega
  go_enter Tryd.func31, Tryd.ntmps31
  go_wp2
  go_loopw [3, 4] (fun a m wr => DecR U w.heap.size 1 w a m wr) (fun a m wr => (intOf m).natAbs)
  case atStart => exact ⟨U, [], Lib.hid rfl, Nat.le_refl _, by go_num, World.ownsRow_lit _ _ 0 (Nat.le_refl _) (by simp [maxLen]) rfl, (Below.refl _ _).alloc (Nat.le_refl _) _⟩
  case round =>
    obtain ⟨u, ds, HD, hu, rfl, hown, hbel⟩ := hrel
    have hlen := len_dec HD.out (by omega)
    have hwsz := hbel.size
    rw [show 1 * (u : Int) = (u : Int) by omega]
    by_cases hu0 : u = 0
    · subst hu0
      obtain rfl : ds = revD U := by have := HD.out; rw [revD_zero, List.append_nil] at this; exact this
      clear HD
      have t1 : ((0 : Int) != 0) = false := rfl
      rw [show ((0 : Nat) : Int) = 0 from rfl]
      obtain ⟨D, HDD⟩ : ∃ D : List UInt8, Hid (revD U = D) := ⟨_, Lib.hid rfl⟩
      rw [HDD.out] at hown hlen
      have hDpos : 0 < D.length := by rw [← HDD.out, revD_pos h0]; simp
      have HI := Lib.hid (show D.reverse = Lib.itoa (U : Int) by rw [← HDD.out]; unfold Lib.itoa; rw [if_neg (by omega), Int.toNat_natCast, dec_rev U h0])
      clear HDD
      obtain ⟨g, cap, rfl, hg, hlt⟩ := hown.form hDpos
      obtain ⟨wo, rfl⟩ : ∃ wo : World, wo = wr := ⟨_, rfl⟩
      go_wp2
      go_loopw [6, 7] (fun b i wr => OutR D w.heap.size wo.heap.size w wo (.slice none 0 0) b i wr) (fun b i wr => (intOf i + 1).toNat)
      case atStart => exact ⟨D.length, Nat.le_refl _, rfl, by simpa [bytesV] using World.ownsRow_lit _ _ 0 (Nat.le_refl _) (by simp [maxLen]) rfl, hbel.alloc hwsz _, (Below.refl _ _).alloc (Nat.le_refl _) _, by simp⟩
      case round =>
        obtain ⟨j, hj, rfl, hout, hb1, hb2, hsz2⟩ := hrel
        cases j with
        | zero =>
          rw [show ((0 : Nat) : Int) - 1 = -1 from rfl]
          rw [Nat.sub_zero, List.drop_zero] at hout
          obtain ⟨g2, cap2, rfl, hg2, hlt2⟩ := hout.form hDpos
          have hconv := run_convert_bytes_arg (P := Tryd.prog) (w := wr) 58 5 Tryd.underlying58 Tryd.underlying5 g2 0 D.length cap2 (D.reverse.map fun b => (b.toNat : Int)) (by simp) (fun i hi => by
            rw [Nat.zero_add, hout.cellAt i (by omega)]
            simp [bytesV, hi, List.getD])
          replace hconv := hconv 9 Tryd.underlying9
          rw [strOf, HI.out] at hconv
          clear hout hown
          go_wp2
          go_ret
          exact ⟨rfl, hb1⟩
        | succ j =>
          rw [show ((j + 1 : Nat) : Int) - 1 = (j : Int) by omega]
          have hjl' : j < D.length := by omega
          have hcell : wr.cell? ⟨g, j, none⟩ = some (.int .u8 ((D[j].toNat : Nat) : Int)) := by
            rw [hb2.cell (p := ⟨g, j, none⟩) hlt, hown.cellAt j (by omega)]
            simp [bytesV, List.getElem?_eq_getElem hjl']
          have hjl : j < D.length := by omega
          have hjz : ¬ ((j : Int) < 0) := by omega
          have HO := Lib.hid (show (D.drop j).reverse = (D.drop (j + 1)).reverse ++ [D[j]] by rw [List.drop_eq_getElem_cons hjl, List.reverse_cons])
          have hsz3 : wo.heap.size ≤ wr.heap.size := hb2.size
          go_wp2_with (at_builtin; refine wpList_append_own _ rfl _ _ 58 rfl wo.heap.size 5 i0 (.int .u8 0) 1 1 Tryd.underlying58 hi hz0 hz1 hz2 rfl (by decide) _ _ _ rfl (hout.alloc _) ⟨wr.heap.size, 0, none⟩ 1 1 [.int .u8 ((D[j].toNat : Nat) : Int)] rfl rfl ?c1z ?c2z ?c3z ?c4z ?c5z ?_)
          case c2z => simp [Value.oneCell']
          case c3z => unfold maxLen; omega
          case c4z => omega
          case c5z => omega
          intro v' w1 hout' hgrow _
          have HB1 : Hid (Below w.heap.size w w1) := Lib.hid ((hb1.alloc (by omega) _).grown hgrow (by simp; omega) (fun k hk => by have := (hout.lt k hk).1; omega))
          have HB2 : Hid (Below wo.heap.size wo w1) := Lib.hid ((hb2.alloc (by omega) _).grown hgrow (by simp; omega) (fun k hk => (hout.lt k hk).1))
          have HO2 : Hid (w1.ownsRow wo.heap.size 5 1 v' (D.length - j) (bytesV (D.drop j).reverse)) := Lib.hid (by
            rw [HO.out, show D.length - j = D.length - (j + 1) + 1 by omega]; simpa [bytesV] using hout')
          have HZ : Hid (wo.heap.size ≤ w1.heap.size) := Lib.hid HB2.out.size
          clear hout' hgrow hout hb1 hb2 hcell
          go_wp2
          go_roundw
          case rel => exact ⟨j, by omega, rfl, HO2.out, HB1.out, HB2.out, HZ.out⟩
          case measure => simp [intOf]
    · have t1 : (((u : Int)) == 0) = false := by simpa using hu0
      have t2 : (((u : Int)) != 0) = true := by simpa using hu0
      have HS := Lib.hid (step_dec HD.out hu0)
      have t3 : ¬ ((u : Int) % 10 < 0) := by omega
      have t4 : decide ((u : Int) % 10 < 0) = false := decide_eq_false t3
      go_wp2_with (at_builtin; refine wpList_append_own _ rfl _ _ 58 rfl w.heap.size 5 i0 (.int .u8 0) 1 1 Tryd.underlying58 hi hz0 hz1 hz2 rfl (by decide) _ _ _ rfl (hown.alloc _) ⟨wr.heap.size, 0, none⟩ 1 1 [.int .u8 (48 + (u : Int) % 10)] rfl rfl ?c1 ?c2 ?c3 ?c4 ?c5 ?_)
      case c2 => simp [Value.oneCell']
      case c3 => unfold maxLen; omega
      case c4 => omega
      case c5 => omega
      intro v' w1 hown' hgrow _
      have HB : Hid (Below w.heap.size w w1) := Lib.hid ((hbel.alloc hwsz _).grown hgrow (by simp; omega) (fun k hk => (hown.lt k hk).1))
      have HO : Hid (w1.ownsRow w.heap.size 5 1 v' (ds ++ [UInt8.ofNat (48 + u % 10)]).length (bytesV (ds ++ [UInt8.ofNat (48 + u % 10)]))) := Lib.hid (by
        rw [u8_dig] at hown'; simpa [bytesV] using hown')
      clear hown' hgrow hown hbel
      go_wp2
      go_roundw
      case rel => exact ⟨u / 10, _, HS, by omega, by go_num, HO.out, HB.out⟩
      case measure => simp [intOf]; omega

set_option maxHeartbeats 2000000 in
set_option maxRecDepth 100000 in
theorem l01Dec_neg (U : Nat) (w : World) (hU : (U : Int) ≤ 9223372036854775808) (h0 : U ≠ 0) :
    Calls Tryd.prog 31 #[.int .i64 (-(U : Int))] w fun e w' => e = .returned (.string ⟨(Lib.itoa (-(U : Int))).toArray⟩) ∧ Below w.heap.size w w' := by
  obtain ⟨i0, hi, hz0, hz1, hz2⟩ := info_parts info_u8
  have h00 : (-(U : Int)) ≠ 0 := by omega
  have h01 : ((-(U : Int)) == 0) = false := by simpa using h0
  have hs : ((-(U : Int)) < 0) := by omega
  go_enter Tryd.func31, Tryd.ntmps31
  go_wp2
  go_loopw [3, 4] (fun a m wr => DecR U w.heap.size (-1) w a m wr) (fun a m wr => (intOf m).natAbs)
  case atStart => exact ⟨U, [], Lib.hid rfl, Nat.le_refl _, by simp, World.ownsRow_lit _ _ 0 (Nat.le_refl _) (by simp [maxLen]) rfl, (Below.refl _ _).alloc (Nat.le_refl _) _⟩
  case round =>
    obtain ⟨u, ds, HD, hu, rfl, hown, hbel⟩ := hrel
    have hlen := len_dec HD.out (by omega)
    have hwsz := hbel.size
    rw [show (-1) * (u : Int) = -(u : Int) by omega]
    by_cases hu0 : u = 0
    · subst hu0
      obtain rfl : ds = revD U := by have := HD.out; rw [revD_zero, List.append_nil] at this; exact this
      clear HD
      have t1 : ((0 : Int) != 0) = false := rfl
      rw [show -((0 : Nat) : Int) = 0 from rfl]
      obtain ⟨D, HDD⟩ : ∃ D : List UInt8, Hid (revD U = D) := ⟨_, Lib.hid rfl⟩
      rw [HDD.out] at hown hlen
      have hDpos : 0 < D.length := by rw [← HDD.out, revD_pos h0]; simp
      go_wp2_with (at_builtin; refine wpList_append_own _ rfl _ _ 58 rfl w.heap.size 5 i0 (.int .u8 0) 1 1 Tryd.underlying58 hi hz0 hz1 hz2 rfl (by decide) _ _ _ rfl (hown.alloc _) ⟨wr.heap.size, 0, none⟩ 1 1 [.int .u8 45] rfl rfl ?c1m ?c2m ?c3m ?c4m ?c5m ?_)
      case c1m => intro j u hj; match j, hj with | 0, hj => (simp at hj; subst hj; simp [Addr.add]) | j + 1, hj => (simp at hj)
      case c2m => simp [Value.oneCell']
      case c3m => unfold maxLen; omega
      case c4m => omega
      case c5m => (simp; omega)
      intro va wa howna hgrowa _
      have hbela : Below w.heap.size w wa := (hbel.alloc hwsz _).grown hgrowa (by simp; omega) (fun k hk => (hown.lt k hk).1)
      have hwsza := hbela.size
      replace hown : wa.ownsRow w.heap.size 5 1 va (D ++ [45]).length (bytesV (D ++ [45])) := by simpa [bytesV] using howna
      replace hlen : (D ++ [45]).length ≤ 20 := by simp; omega
      replace hDpos : 0 < (D ++ [45]).length := by simp
      clear howna hgrowa hbel hwsz
      have HI := Lib.hid (show (D ++ [45]).reverse = Lib.itoa (-(U : Int)) by rw [← HDD.out]; unfold Lib.itoa; rw [if_pos (by omega), show (-(U : Int)).natAbs = U by omega, dec_rev U h0]; simp)
      clear HDD
      generalize D ++ [45] = D at *
      obtain ⟨g, cap, rfl, hg, hlt⟩ := hown.form hDpos
      obtain ⟨wo, rfl⟩ : ∃ wo : World, wo = wa := ⟨_, rfl⟩
      go_wp2
      go_loopw [6, 7] (fun b i wr => OutR D w.heap.size wo.heap.size w wo (.slice none 0 0) b i wr) (fun b i wr => (intOf i + 1).toNat)
      case atStart => exact ⟨D.length, Nat.le_refl _, rfl, by simpa [bytesV] using World.ownsRow_lit _ _ 0 (Nat.le_refl _) (by simp [maxLen]) rfl, hbela.alloc hwsza _, (Below.refl _ _).alloc (Nat.le_refl _) _, by simp⟩
      case round =>
        obtain ⟨j, hj, rfl, hout, hb1, hb2, hsz2⟩ := hrel
        cases j with
        | zero =>
          rw [show ((0 : Nat) : Int) - 1 = -1 from rfl]
          rw [Nat.sub_zero, List.drop_zero] at hout
          obtain ⟨g2, cap2, rfl, hg2, hlt2⟩ := hout.form hDpos
          have hconv := run_convert_bytes_arg (P := Tryd.prog) (w := wr) 58 5 Tryd.underlying58 Tryd.underlying5 g2 0 D.length cap2 (D.reverse.map fun b => (b.toNat : Int)) (by simp) (fun i hi => by
            rw [Nat.zero_add, hout.cellAt i (by omega)]
            simp [bytesV, hi, List.getD])
          replace hconv := hconv 9 Tryd.underlying9
          rw [strOf, HI.out] at hconv
          clear hout hown
          go_wp2
          go_ret
          exact ⟨rfl, hb1⟩
        | succ j =>
          rw [show ((j + 1 : Nat) : Int) - 1 = (j : Int) by omega]
          have hjl' : j < D.length := by omega
          have hcell : wr.cell? ⟨g, j, none⟩ = some (.int .u8 ((D[j].toNat : Nat) : Int)) := by
            rw [hb2.cell (p := ⟨g, j, none⟩) hlt, hown.cellAt j (by omega)]
            simp [bytesV, List.getElem?_eq_getElem hjl']
          have hjl : j < D.length := by omega
          have hjz : ¬ ((j : Int) < 0) := by omega
          have HO := Lib.hid (show (D.drop j).reverse = (D.drop (j + 1)).reverse ++ [D[j]] by rw [List.drop_eq_getElem_cons hjl, List.reverse_cons])
          have hsz3 : wo.heap.size ≤ wr.heap.size := hb2.size
          go_wp2_with (at_builtin; refine wpList_append_own _ rfl _ _ 58 rfl wo.heap.size 5 i0 (.int .u8 0) 1 1 Tryd.underlying58 hi hz0 hz1 hz2 rfl (by decide) _ _ _ rfl (hout.alloc _) ⟨wr.heap.size, 0, none⟩ 1 1 [.int .u8 ((D[j].toNat : Nat) : Int)] rfl rfl ?c1z ?c2z ?c3z ?c4z ?c5z ?_)
          case c2z => simp [Value.oneCell']
          case c3z => unfold maxLen; omega
          case c4z => omega
          case c5z => omega
          intro v' w1 hout' hgrow _
          have HB1 : Hid (Below w.heap.size w w1) := Lib.hid ((hb1.alloc (by omega) _).grown hgrow (by simp; omega) (fun k hk => by have := (hout.lt k hk).1; omega))
          have HB2 : Hid (Below wo.heap.size wo w1) := Lib.hid ((hb2.alloc (by omega) _).grown hgrow (by simp; omega) (fun k hk => (hout.lt k hk).1))
          have HO2 : Hid (w1.ownsRow wo.heap.size 5 1 v' (D.length - j) (bytesV (D.drop j).reverse)) := Lib.hid (by
            rw [HO.out, show D.length - j = D.length - (j + 1) + 1 by omega]; simpa [bytesV] using hout')
          have HZ : Hid (wo.heap.size ≤ w1.heap.size) := Lib.hid HB2.out.size
          clear hout' hgrow hout hb1 hb2 hcell
          go_wp2
          go_roundw
          case rel => exact ⟨j, by omega, rfl, HO2.out, HB1.out, HB2.out, HZ.out⟩
          case measure => simp [intOf]
    · have t1 : ((-(u : Int)) == 0) = false := by simpa using hu0
      have t2 : ((-(u : Int)) != 0) = true := by simpa using hu0
      have HS := Lib.hid (step_dec HD.out hu0)
      by_cases hr : (u : Int) % 10 = 0
      · have e1 : (-(u : Int)).tmod 10 = 0 := by rw [Int.neg_tmod, Int.tmod_eq_emod_of_nonneg (by omega), hr]; rfl
        have e2 : (-(u : Int)).tdiv 10 = -((u : Int) / 10) := by rw [Int.neg_tdiv, Int.tdiv_eq_ediv_of_nonneg (by omega)]
        go_wp2_with (at_builtin; refine wpList_append_own _ rfl _ _ 58 rfl w.heap.size 5 i0 (.int .u8 0) 1 1 Tryd.underlying58 hi hz0 hz1 hz2 rfl (by decide) _ _ _ rfl (hown.alloc _) ⟨wr.heap.size, 0, none⟩ 1 1 [.int .u8 48] rfl rfl ?c1p ?c2p ?c3p ?c4p ?c5p ?_)
        case c1p => intro j u hj; match j, hj with | 0, hj => (simp at hj; subst hj; simp [Addr.add]) | j + 1, hj => (simp at hj)
        case c2p => simp [Value.oneCell']
        case c3p => unfold maxLen; omega
        case c4p => omega
        case c5p => (simp; omega)
        intro v' w1 hown' hgrow _
        have HB : Hid (Below w.heap.size w w1) := Lib.hid ((hbel.alloc hwsz _).grown hgrow (by simp; omega) (fun k hk => (hown.lt k hk).1))
        have HO : Hid (w1.ownsRow w.heap.size 5 1 v' (ds ++ [UInt8.ofNat (48 + u % 10)]).length (bytesV (ds ++ [UInt8.ofNat (48 + u % 10)]))) := Lib.hid (by
          rw [show (48 : Int) = 48 + (u : Int) % 10 by omega] at hown'
          rw [u8_dig] at hown'; simpa [bytesV] using hown')
        clear hown' hgrow hown hbel
        go_wp2
        go_roundw
        case rel => exact ⟨u / 10, _, HS, by omega, by go_num, HO.out, HB.out⟩
        case measure => simp [intOf]; omega
      · have e1 : (-(u : Int)).tmod 10 = -((u : Int) % 10) := by rw [Int.neg_tmod, Int.tmod_eq_emod_of_nonneg (by omega)]
        have t3 : -((u : Int) % 10) < 0 := by omega
        have t4 : decide (-((u : Int) % 10) < 0) = true := decide_eq_true t3
        have e2 : (-(u : Int)).tdiv 10 = -((u : Int) / 10) := by rw [Int.neg_tdiv, Int.tdiv_eq_ediv_of_nonneg (by omega)]
        go_wp2_with (at_builtin; refine wpList_append_own _ rfl _ _ 58 rfl w.heap.size 5 i0 (.int .u8 0) 1 1 Tryd.underlying58 hi hz0 hz1 hz2 rfl (by decide) _ _ _ rfl (hown.alloc _) ⟨wr.heap.size, 0, none⟩ 1 1 [.int .u8 (48 + (u : Int) % 10)] rfl rfl ?c1q ?c2q ?c3q ?c4q ?c5q ?_)
        case c1q => intro j u hj; match j, hj with | 0, hj => (simp at hj; subst hj; simp [Addr.add]) | j + 1, hj => (simp at hj)
        case c2q => simp [Value.oneCell']
        case c3q => unfold maxLen; omega
        case c4q => omega
        case c5q => (simp; omega)
        intro v' w1 hown' hgrow _
        have HB : Hid (Below w.heap.size w w1) := Lib.hid ((hbel.alloc hwsz _).grown hgrow (by simp; omega) (fun k hk => (hown.lt k hk).1))
        have HO : Hid (w1.ownsRow w.heap.size 5 1 v' (ds ++ [UInt8.ofNat (48 + u % 10)]).length (bytesV (ds ++ [UInt8.ofNat (48 + u % 10)]))) := Lib.hid (by
          skip
          rw [u8_dig] at hown'; simpa [bytesV] using hown')
        clear hown' hgrow hown hbel
        go_wp2
        go_roundw
        case rel => exact ⟨u / 10, _, HS, by omega, by go_num, HO.out, HB.out⟩
        case measure => simp [intOf]; omega

theorem l01Dec_any (n : Int) (w : World) (h1 : -9223372036854775808 ≤ n) (h2 : n ≤ 9223372036854775807) :
    Calls Tryd.prog 31 #[.int .i64 n] w fun e w' => e = .returned (.string ⟨(Lib.itoa n).toArray⟩) ∧ Below w.heap.size w w' := by
  rcases Int.lt_trichotomy n 0 with h | h | h
  · obtain ⟨U, rfl⟩ : ∃ U : Nat, n = -(U : Int) := ⟨n.natAbs, by omega⟩
    exact l01Dec_neg U w (by omega) (by omega)
  · subst h
    have HI := Lib.hid (show Lib.itoa 0 = [48] by simp [Lib.itoa]; rw [Lib.decDigits]; rfl)
    go_enter Tryd.func31, Tryd.ntmps31
    go_wp2
    go_ret
    exact ⟨(by rw [HI.out] : Ending.returned (Value.string ⟨#[48]⟩) = .returned (.string ⟨(Lib.itoa 0).toArray⟩)), Below.refl _ _⟩
  · obtain ⟨U, rfl⟩ : ∃ U : Nat, n = (U : Int) := ⟨n.natAbs, by omega⟩
    exact l01Dec_pos U w (by omega) (by omega)

end Go.Proofs.YtnlkikdgffaeeaaDoor
