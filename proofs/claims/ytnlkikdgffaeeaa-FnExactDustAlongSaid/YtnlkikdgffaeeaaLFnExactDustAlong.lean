/-
  PROVED: for every input the function laws.FnExactDustAlong returns true and leaves its arguments as they were. Conditions: none.
-/
import Derived.Test.YtnlkikdgffaeeaaRows
import Derived.Test.YtnlkikdgffaeeaaQr
import Derived.Test.YtnlkikdgffaeeaaWe
import Derived.Test.YtnlkikdgffaeeaaQm
import Derived.Test.YtnlkikdgffaeeaaFx
import Derived.WalkKit
import Derived.ProofKit
import Derived.OpenShut
import Derived.ShutString
import Derived.ChangeOld
import Derived.Below
import Derived.Carry
namespace Go.Proofs.Ytnlkikdgffaeeaa.fnExactDustAlong
open Go.ChangeShapes Go.WideShapes Go.ChangeAt Go.RowKit
open Go.ChangeMaps (open_string shut_string)

set_option linter.unusedVariables false
set_option linter.unusedSimpArgs false

theorem own : ownKnob Try.prog.godebug = none := by kernel_rfl
theorem laidOut : laidOutB Try.prog = true := by kernel_rfl
/-- A slice of integers that came in: nil, or a row of 'cap' cells. -/
def IsRow (k : IntKind) (w : World) (a : Option Addr) (len cap : Nat) (zs : List Int) : Prop :=
  (a = none ∧ len = 0 ∧ cap = 0 ∧ zs = []) ∨
  ∃ x, a = some x ∧ len ≤ cap ∧ cap ≤ maxLen ∧ zs.length = cap ∧ (∀ i, i < zs.length → w.cell? (x.add i) = some (.int k (zs.getD i 0))) ∧ ∀ n ∈ zs, (Lit.int k n).wf = true
theorem rowW {w : World} {a : Option Addr} {len cap : Nat} {zs : List Int} (h : IsRow .i64 w a len cap zs) : ∃ xs, xs.length = len ∧ RowW .i64 w (.slice a len cap) xs := by
  rcases h with ⟨rfl, rfl, rfl, rfl⟩ | ⟨x, rfl, hlc, hcm, hzl, hcell, hwf⟩
  · exact ⟨[], rfl, none, 0, rfl, fun j hj => absurd hj (by simp)⟩
  · have hl : (zs.take len).length = len := by rw [List.length_take]; omega
    refine ⟨zs.take len, hl, some x, cap, by rw [hl], fun j hj => ?_⟩
    rw [hl] at hj
    have h0 := hcell 0 (by omega)
    obtain ⟨b, off, sp⟩ := x
    have hsp : sp = none := by
      unfold Addr.add World.cell? at h0
      rw [if_pos rfl] at h0
      cases sp with
      | none => rfl
      | some q => cases hq : w.heap[b]? with
        | none => simp [hq] at h0
        | some o => cases o <;> simp [hq] at h0
    subst hsp
    refine ⟨b, off, rfl, ?_⟩
    have := hcell j (by omega)
    rw [List.getD_eq_getElem?_getD, List.getElem?_take, if_pos hj, ← List.getD_eq_getElem?_getD, ← this]
    unfold Addr.add
    split
    · rename_i h; subst h; rfl
    · rfl
set_option maxHeartbeats 4000000 in

theorem walk (w : World) (a0 : Option Addr) (len0 cap0 : Nat) (z0 : List Int) (w0 : IsRow .i64 w a0 len0 cap0 z0) (a1 : Option Addr) (len1 cap1 : Nat) (z1 : List Int) (w1 : IsRow .i64 w a1 len1 cap1 z1) (a2 : Int) (w2 : (Lit.int .i64 a2).wf = true) :
    Calls Try.prog 7 #[.slice a0 len0 cap0, .slice a1 len1 cap1, .int .i64 a2] w fun e w' => e = .returned (.bool true) ∧ Below w.heap.size w w' := by
  obtain ⟨x0, rfl, r0⟩ := rowW w0
  have HR0 := Lib.hid r0
  clear r0 w0
  obtain ⟨x1, rfl, r1⟩ := rowW w1
  have HR1 := Lib.hid r1
  clear r1 w1
  by_cases hlong0 : 1048576 < x0.length
  · have t1 : (1048576 : Int) < (x0.length : Int) := by omega
    go_enter Try.func7, Try.ntmps7
    go_wp2
    go_ret
    exact ⟨rfl, Below.refl _ _⟩
  have HL0 := Lib.hid (show x0.length ≤ 1048576 by omega)
  have t1_0 : ¬ (1048576 : Int) < (x0.length : Int) := by omega
  have t2_0 : decide ((1048576 : Int) < (x0.length : Int)) = false := decide_eq_false t1_0
  clear hlong0
  by_cases hlong1 : 1048576 < x1.length
  · have t1 : (1048576 : Int) < (x1.length : Int) := by omega
    go_enter Try.func7, Try.ntmps7
    go_wp2
    go_ret
    exact ⟨rfl, Below.refl _ _⟩
  have HL1 := Lib.hid (show x1.length ≤ 1048576 by omega)
  have t1_1 : ¬ (1048576 : Int) < (x1.length : Int) := by omega
  have t2_1 : decide ((1048576 : Int) < (x1.length : Int)) = false := decide_eq_false t1_1
  clear hlong1
  have HLN := Lib.hid (alR_len x0 x1 a2)
  have HB0 := Lib.hid (Below.refl w.heap.size w)
  go_enter Try.func7, Try.ntmps7
  go_wp2_with fail
  (with_reducible refine (toInt64S_own _ x0 _ (HR0.out.below HB0.out) HL0.out).mono ?_)
  rintro e W1 ⟨gs0, rfl, ho, hd⟩
  have B1 := Lib.hid (show Below w.heap.size w W1 from hd)
  have HB1 := Lib.hid (HB0.out.trans (B1.out.mono HB0.out.size))
  have hs_1 : w.heap.size ≤ W1.heap.size := B1.out.size
  have Os0_1 := Lib.hid (show OwnI _ _ (.slice (some ⟨gs0, 0, none⟩) x0.length x0.length) x0 from ho)
  clear ho
  try clear hd
  go_wp2_with fail
  (with_reducible refine (toInt64S_own _ x1 _ (HR1.out.below HB1.out) HL1.out).mono ?_)
  rintro e W2 ⟨gs1, rfl, ho, hd⟩
  have B2 := Lib.hid (show Below W1.heap.size W1 W2 from hd)
  have HB2 := Lib.hid (HB1.out.trans (B2.out.mono HB1.out.size))
  have hs_2 : W1.heap.size ≤ W2.heap.size := B2.out.size
  have Os0_2 := Lib.hid (Os0_1.out.below B2.out)
  have Os1_2 := Lib.hid (show OwnI _ _ (.slice (some ⟨gs1, 0, none⟩) x1.length x1.length) x1 from ho)
  clear ho
  try clear hd
  go_wp2_with fail
  (with_reducible refine (sDustAlong_any _ x0 _ x1 a2  _ (row_ofO Os0_2.out) HL0.out (row_ofO Os1_2.out) HL1.out ).mono ?_)
  rintro e W3 ⟨vw, rfl, ho, hd⟩
  have B3 := Lib.hid (show Below W2.heap.size W2 W3 from hd)
  have HB3 := Lib.hid (HB2.out.trans (B3.out.mono HB2.out.size))
  have hs_3 : W2.heap.size ≤ W3.heap.size := B3.out.size
  have Os0_3 := Lib.hid (Os0_2.out.below B3.out)
  have Os1_3 := Lib.hid (Os1_2.out.below B3.out)
  have Ow_3 := Lib.hid ho
  clear ho
  try clear hd
  go_wp2_with fail
  (with_reducible refine (toInt64S_own _ x0 _ (HR0.out.below HB3.out) HL0.out).mono ?_)
  rintro e W4 ⟨gx0, rfl, ho, hd⟩
  have B4 := Lib.hid (show Below W3.heap.size W3 W4 from hd)
  have HB4 := Lib.hid (HB3.out.trans (B4.out.mono HB3.out.size))
  have hs_4 : W3.heap.size ≤ W4.heap.size := B4.out.size
  have Ow_4 := Lib.hid (Ow_3.out.below B4.out)
  have Ox0_4 := Lib.hid (show OwnI _ _ (.slice (some ⟨gx0, 0, none⟩) x0.length x0.length) x0 from ho)
  clear ho
  try clear hd
  go_wp2_with fail
  (with_reducible refine (toInt64S_own _ x1 _ (HR1.out.below HB4.out) HL1.out).mono ?_)
  rintro e W5 ⟨gx1, rfl, ho, hd⟩
  have B5 := Lib.hid (show Below W4.heap.size W4 W5 from hd)
  have HB5 := Lib.hid (HB4.out.trans (B5.out.mono HB4.out.size))
  have hs_5 : W4.heap.size ≤ W5.heap.size := B5.out.size
  have Ow_5 := Lib.hid (Ow_4.out.below B5.out)
  have Ox0_5 := Lib.hid (Ox0_4.out.below B5.out)
  have Ox1_5 := Lib.hid (show OwnI _ _ (.slice (some ⟨gx1, 0, none⟩) x1.length x1.length) x1 from ho)
  clear ho
  try clear hd
  go_wp2_with fail
  (with_reducible refine (iDustAlong_any _ x0 _ x1 a2  _ (row_ofO Ox0_5.out) HL0.out (row_ofO Ox1_5.out) HL1.out ).mono ?_)
  rintro e W6 ⟨vg, rfl, ho, hd⟩
  have B6 := Lib.hid (show Below W5.heap.size W5 W6 from hd)
  have HB6 := Lib.hid (HB5.out.trans (B6.out.mono HB5.out.size))
  have hs_6 : W5.heap.size ≤ W6.heap.size := B6.out.size
  have Ow_6 := Lib.hid (Ow_5.out.below B6.out)
  have Ox0_6 := Lib.hid (Ox0_5.out.below B6.out)
  have Ox1_6 := Lib.hid (Ox1_5.out.below B6.out)
  have Og_6 := Lib.hid ho
  clear ho
  try clear hd
  go_wp2_with fail
  (with_reducible refine (eqInt64S_w vg vw (alR x0 x1 a2) _ (RowW.of_ownI Og_6.out) (RowW.of_ownI Ow_6.out) (by have := HLN.out; omega)).mono ?_)
  rintro e W7 ⟨rfl, n7, hn⟩
  have B7 := Lib.hid (show Below W6.heap.size W6 W7 from hn ▸ below_drewN (Below.refl _ _) n7)
  have HB7 := Lib.hid (HB6.out.trans (B7.out.mono HB6.out.size))
  have hs_7 : W6.heap.size ≤ W7.heap.size := B7.out.size
  have Ow_7 := Lib.hid (Ow_6.out.below B7.out)
  have Ox0_7 := Lib.hid (Ox0_6.out.below B7.out)
  have Ox1_7 := Lib.hid (Ox1_6.out.below B7.out)
  have Og_7 := Lib.hid (Og_6.out.below B7.out)
  clear hn
  try clear hd
  go_wp2_with fail
  (with_reducible refine (toInt64S_own _ x0 _ (HR0.out.below HB7.out) HL0.out).mono ?_)
  rintro e W8 ⟨gb0, rfl, ho, hd⟩
  have B8 := Lib.hid (show Below W7.heap.size W7 W8 from hd)
  have HB8 := Lib.hid (HB7.out.trans (B8.out.mono HB7.out.size))
  have hs_8 : W7.heap.size ≤ W8.heap.size := B8.out.size
  have Ow_8 := Lib.hid (Ow_7.out.below B8.out)
  have Ox0_8 := Lib.hid (Ox0_7.out.below B8.out)
  have Ox1_8 := Lib.hid (Ox1_7.out.below B8.out)
  have Og_8 := Lib.hid (Og_7.out.below B8.out)
  have Ob0_8 := Lib.hid (show OwnI _ _ (.slice (some ⟨gb0, 0, none⟩) x0.length x0.length) x0 from ho)
  clear ho
  try clear hd
  go_wp2_with fail
  (with_reducible refine (eqInt64S_w (.slice (some ⟨gx0, 0, none⟩) x0.length x0.length) (.slice (some ⟨gb0, 0, none⟩) x0.length x0.length) x0 _ (RowW.of_ownI Ox0_8.out) (RowW.of_ownI Ob0_8.out) (by have := HL0.out; omega)).mono ?_)
  rintro e W9 ⟨rfl, n9, hn⟩
  have B9 := Lib.hid (show Below W8.heap.size W8 W9 from hn ▸ below_drewN (Below.refl _ _) n9)
  have HB9 := Lib.hid (HB8.out.trans (B9.out.mono HB8.out.size))
  have hs_9 : W8.heap.size ≤ W9.heap.size := B9.out.size
  have Ow_9 := Lib.hid (Ow_8.out.below B9.out)
  have Ox0_9 := Lib.hid (Ox0_8.out.below B9.out)
  have Ox1_9 := Lib.hid (Ox1_8.out.below B9.out)
  have Og_9 := Lib.hid (Og_8.out.below B9.out)
  have Ob0_9 := Lib.hid (Ob0_8.out.below B9.out)
  clear hn
  try clear hd
  go_wp2_with fail
  (with_reducible refine (toInt64S_own _ x1 _ (HR1.out.below HB9.out) HL1.out).mono ?_)
  rintro e W10 ⟨gb1, rfl, ho, hd⟩
  have B10 := Lib.hid (show Below W9.heap.size W9 W10 from hd)
  have HB10 := Lib.hid (HB9.out.trans (B10.out.mono HB9.out.size))
  have hs_10 : W9.heap.size ≤ W10.heap.size := B10.out.size
  have Ow_10 := Lib.hid (Ow_9.out.below B10.out)
  have Ox0_10 := Lib.hid (Ox0_9.out.below B10.out)
  have Ox1_10 := Lib.hid (Ox1_9.out.below B10.out)
  have Og_10 := Lib.hid (Og_9.out.below B10.out)
  have Ob1_10 := Lib.hid (show OwnI _ _ (.slice (some ⟨gb1, 0, none⟩) x1.length x1.length) x1 from ho)
  clear ho
  try clear hd
  go_wp2_with fail
  (with_reducible refine (eqInt64S_w (.slice (some ⟨gx1, 0, none⟩) x1.length x1.length) (.slice (some ⟨gb1, 0, none⟩) x1.length x1.length) x1 _ (RowW.of_ownI Ox1_10.out) (RowW.of_ownI Ob1_10.out) (by have := HL1.out; omega)).mono ?_)
  rintro e W11 ⟨rfl, n11, hn⟩
  have B11 := Lib.hid (show Below W10.heap.size W10 W11 from hn ▸ below_drewN (Below.refl _ _) n11)
  have HB11 := Lib.hid (HB10.out.trans (B11.out.mono HB10.out.size))
  have hs_11 : W10.heap.size ≤ W11.heap.size := B11.out.size
  have Ow_11 := Lib.hid (Ow_10.out.below B11.out)
  have Ox0_11 := Lib.hid (Ox0_10.out.below B11.out)
  have Ox1_11 := Lib.hid (Ox1_10.out.below B11.out)
  have Og_11 := Lib.hid (Og_10.out.below B11.out)
  have Ob1_11 := Lib.hid (Ob1_10.out.below B11.out)
  clear hn
  try clear hd
  go_wp2_with fail
  have hml0 : x0.length ≤ 1048576 := HL0.out
  (with_reducible refine (markInt64SB_any W3.heap.size (.slice (some ⟨gx0, 0, none⟩) x0.length x0.length) x0 (1) _ Ox0_11.out HL0.out (by omega)).mono ?_)
  rintro e W12 ⟨rfl, ho, hg⟩
  have G12 := Lib.hid hg
  have hltx0 := (Ox0_4.out.lt gx0 rfl)
  clear ho hg
  have hs_12 : W11.heap.size ≤ W12.heap.size := G12.out.size
  have HB12 := Lib.hid (Below.grown HB11.out G12.out HB11.out.size (fun k hk => by have := (Ox0_11.out.lt k hk).1; omega))
  have Ow_12 := Lib.hid (own_far Ow_11.out (fun k hk => by have := Ow_3.out.lt k hk; omega) (show W11.grownBy W12 (some gx0) from G12.out))
  have Ox1_12 := Lib.hid (own_far Ox1_11.out (fun k hk => by have := Ox1_5.out.lt k hk; omega) (show W11.grownBy W12 (some gx0) from G12.out))
  have Og_12 := Lib.hid (own_far Og_11.out (fun k hk => by have := Og_6.out.lt k hk; omega) (show W11.grownBy W12 (some gx0) from G12.out))
  go_wp2_with fail
  have hml1 : x1.length ≤ 1048576 := HL1.out
  (with_reducible refine (markInt64SB_any W4.heap.size (.slice (some ⟨gx1, 0, none⟩) x1.length x1.length) x1 (1 + (x0.length : Int)) _ Ox1_12.out HL1.out (by omega)).mono ?_)
  rintro e W13 ⟨rfl, ho, hg⟩
  have G13 := Lib.hid hg
  have hltx1 := (Ox1_5.out.lt gx1 rfl)
  clear ho hg
  have hs_13 : W12.heap.size ≤ W13.heap.size := G13.out.size
  have HB13 := Lib.hid (Below.grown HB12.out G13.out HB12.out.size (fun k hk => by have := (Ox1_12.out.lt k hk).1; omega))
  have Ow_13 := Lib.hid (own_far Ow_12.out (fun k hk => by have := Ow_3.out.lt k hk; omega) (show W12.grownBy W13 (some gx1) from G13.out))
  have Og_13 := Lib.hid (own_far Og_12.out (fun k hk => by have := Og_6.out.lt k hk; omega) (show W12.grownBy W13 (some gx1) from G13.out))
  have hmk0 : ¬ (1 + (x0.length : Int) + (x1.length : Int) < 0) := by omega
  go_wp2_with fail
  (with_reducible refine (eqInt64S_w vg vw (alR x0 x1 a2) _ (RowW.of_ownI Og_13.out) (RowW.of_ownI Ow_13.out) (by have := HLN.out; omega)).mono ?_)
  rintro e W14 ⟨rfl, n14, hn⟩
  have B14 := Lib.hid (show Below W13.heap.size W13 W14 from hn ▸ below_drewN (Below.refl _ _) n14)
  have HB14 := Lib.hid (HB13.out.trans (B14.out.mono HB13.out.size))
  have hs_14 : W13.heap.size ≤ W14.heap.size := B14.out.size
  have Ow_14 := Lib.hid (Ow_13.out.below B14.out)
  have Og_14 := Lib.hid (Og_13.out.below B14.out)
  clear hn
  try clear hd
  go_wp2_with fail
  (with_reducible refine (markInt64S_any W5.heap.size vg (alR x0 x1 a2) 1 _ Og_14.out (by first | omega | (have := HLN.out; omega)) (by omega)).mono ?_)
  rintro e W15 ⟨rfl, ho, hg⟩
  have G15 := Lib.hid hg
  have Og_15 := Lib.hid ho
  clear ho hg
  have hs_15 : W14.heap.size ≤ W15.heap.size := G15.out.size
  have HB15 := Lib.hid (Below.grown HB14.out G15.out HB14.out.size (fun k hk => by have := (Og_14.out.lt k hk).1; omega))
  have Ow_15 := Lib.hid (OwnI.apart Ow_14.out (fun k hk => by have := (Ow_3.out.lt k hk).2; omega) Og_14.out G15.out)
  go_wp2_with fail
  (with_reducible refine (heldInt64S_any W5.heap.size vg (alR x0 x1 a2).length 1 _ Og_15.out (by have := HLN.out; omega) (by omega)).mono ?_)
  rintro e w' ⟨rfl, rfl⟩
  have hm0 : ¬ (1 + ((alR x0 x1 a2).length : Int) < 0) := by omega
  go_wp2_with fail
  (with_reducible refine (toInt64S_own _ x0 _ (HR0.out.below HB15.out) HL0.out).mono ?_)
  rintro e W16 ⟨gh0, rfl, ho, hd⟩
  have B16 := Lib.hid (show Below W15.heap.size W15 W16 from hd)
  have HB16 := Lib.hid (HB15.out.trans (B16.out.mono HB15.out.size))
  have hs_16 : W15.heap.size ≤ W16.heap.size := B16.out.size
  have Ow_16 := Lib.hid (Ow_15.out.below B16.out)
  have Og_16 := Lib.hid (Og_15.out.below B16.out)
  have Oh0_16 := Lib.hid (show OwnI _ _ (.slice (some ⟨gh0, 0, none⟩) x0.length x0.length) x0 from ho)
  clear ho
  try clear hd
  go_wp2_with fail
  (with_reducible refine (toInt64S_own _ x1 _ (HR1.out.below HB16.out) HL1.out).mono ?_)
  rintro e W17 ⟨gh1, rfl, ho, hd⟩
  have B17 := Lib.hid (show Below W16.heap.size W16 W17 from hd)
  have HB17 := Lib.hid (HB16.out.trans (B17.out.mono HB16.out.size))
  have hs_17 : W16.heap.size ≤ W17.heap.size := B17.out.size
  have Ow_17 := Lib.hid (Ow_16.out.below B17.out)
  have Og_17 := Lib.hid (Og_16.out.below B17.out)
  have Oh0_17 := Lib.hid (Oh0_16.out.below B17.out)
  have Oh1_17 := Lib.hid (show OwnI _ _ (.slice (some ⟨gh1, 0, none⟩) x1.length x1.length) x1 from ho)
  clear ho
  try clear hd
  go_wp2_with fail
  (with_reducible refine (iDustAlong_any _ x0 _ x1 a2  _ (row_ofO Oh0_17.out) HL0.out (row_ofO Oh1_17.out) HL1.out ).mono ?_)
  rintro e W18 ⟨vh, rfl, ho, hd⟩
  have B18 := Lib.hid (show Below W17.heap.size W17 W18 from hd)
  have HB18 := Lib.hid (HB17.out.trans (B18.out.mono HB17.out.size))
  have hs_18 : W17.heap.size ≤ W18.heap.size := B18.out.size
  have Ow_18 := Lib.hid (Ow_17.out.below B18.out)
  have Og_18 := Lib.hid (Og_17.out.below B18.out)
  have Oh0_18 := Lib.hid (Oh0_17.out.below B18.out)
  have Oh1_18 := Lib.hid (Oh1_17.out.below B18.out)
  have Oh_18 := Lib.hid ho
  clear ho
  try clear hd
  go_wp2_with fail
  (with_reducible refine (eqInt64S_w vh vw (alR x0 x1 a2) _ (RowW.of_ownI Oh_18.out) (RowW.of_ownI Ow_18.out) (by have := HLN.out; omega)).mono ?_)
  rintro e W19 ⟨rfl, n19, hn⟩
  have B19 := Lib.hid (show Below W18.heap.size W18 W19 from hn ▸ below_drewN (Below.refl _ _) n19)
  have HB19 := Lib.hid (HB18.out.trans (B19.out.mono HB18.out.size))
  have hs_19 : W18.heap.size ≤ W19.heap.size := B19.out.size
  have Ow_19 := Lib.hid (Ow_18.out.below B19.out)
  have Og_19 := Lib.hid (Og_18.out.below B19.out)
  have Oh0_19 := Lib.hid (Oh0_18.out.below B19.out)
  have Oh1_19 := Lib.hid (Oh1_18.out.below B19.out)
  have Oh_19 := Lib.hid (Oh_18.out.below B19.out)
  clear hn
  try clear hd
  go_wp2_with fail
  (with_reducible refine (heldInt64S_any W5.heap.size vg (alR x0 x1 a2).length 1 _ Og_19.out (by have := HLN.out; omega) (by omega)).mono ?_)
  rintro e w' ⟨rfl, rfl⟩
  go_wp2
  go_ret
  exact ⟨rfl, HB19.out⟩

set_option maxHeartbeats 1000000 in
set_option maxRecDepth 100000 in
theorem contract (H : Type) (enc : TypeId × Value → H) (W : World) (base : Nat) (args : Array Value) (ds gs : List (DataW H)) (before : List MemPlace)
    (hval : ∀ (j : Nat) t v, Try.f7.params[j]? = some t → args[j]? = some v → Value.okWide Try.prog W .any base t v)
    (hW : DataW.Whole enc Try.prog Try.f7.params.toList Rows.fnExactDustAlongSpec.vars false W args.toList ds gs before) :
    Calls Try.prog 7 args W fun e W' => ∃ v, e = .returned v ∧ Rows.fnExactDustAlongSpec.post enc Try.prog Try.f7 false true false false W args v W' := by
  have hW' := hW
  obtain ⟨p, q, hA0, hV, rfl, hfz, hnd⟩ := hW
  have hA : DataW.TrodAll enc Try.prog W 0 (fun _ => true) true Try.f7.params.toList args.toList ds p := hA0
  rw [Try.params7] at hA hval
  obtain ⟨v0, vs0, d0, ds0, p0, q0, hargs, rfl, rfl, h0, r0⟩ := trodAll_cons hA
  obtain ⟨v1, vs1, d1, ds1, p1, q1, rfl, rfl, rfl, h1, r1⟩ := trodAll_cons r0
  obtain ⟨v2, vs2, d2, ds2, p2, q2, rfl, rfl, rfl, h2, r2⟩ := trodAll_cons r1
  obtain ⟨rfl, rfl, rfl⟩ := trodAll_nil r2
  obtain rfl : args = #[v0, v1, v2] := by cases args; simp_all
  obtain ⟨rfl, rfl⟩ := trodVars_none hV
  obtain ⟨a0, len0, cap0, rfl⟩ := okWide_slice Try.underlying40 (hval 0 40 v0 rfl rfl)
  have k0 := h0
  have lt0 : ∀ x ∈ p0, x.block < W.heap.size := by obtain ⟨m, hm⟩ := k0; exact DataW.trod_lt m _ _ _ hm
  obtain ⟨z0, w0⟩ : ∃ zs, IsRow .i64 W a0 len0 cap0 zs := by
    obtain ⟨fuel, hf⟩ := h0
    rcases open_ints Try.underlying40 Try.underlying2 (by kernel_rfl) hf with ⟨hcs, _⟩ | ⟨x, l, c, zs, hcs, _, hl, hm, hz, _, hcell, hwz⟩
    · simp [Value.cells] at hcs
      obtain ⟨rfl, rfl, rfl⟩ := hcs
      exact ⟨[], .inl ⟨rfl, rfl, rfl, rfl⟩⟩
    · simp [Value.cells] at hcs
      obtain ⟨rfl, rfl, rfl⟩ := hcs
      exact ⟨zs, .inr ⟨_, rfl, hl, hm, by simpa using hz, hcell, hwz⟩⟩
  obtain ⟨a1, len1, cap1, rfl⟩ := okWide_slice Try.underlying40 (hval 1 40 v1 rfl rfl)
  have k1 := h1
  have lt1 : ∀ x ∈ p1, x.block < W.heap.size := by obtain ⟨m, hm⟩ := k1; exact DataW.trod_lt m _ _ _ hm
  obtain ⟨z1, w1⟩ : ∃ zs, IsRow .i64 W a1 len1 cap1 zs := by
    obtain ⟨fuel, hf⟩ := h1
    rcases open_ints Try.underlying40 Try.underlying2 (by kernel_rfl) hf with ⟨hcs, _⟩ | ⟨x, l, c, zs, hcs, _, hl, hm, hz, _, hcell, hwz⟩
    · simp [Value.cells] at hcs
      obtain ⟨rfl, rfl, rfl⟩ := hcs
      exact ⟨[], .inl ⟨rfl, rfl, rfl, rfl⟩⟩
    · simp [Value.cells] at hcs
      obtain ⟨rfl, rfl, rfl⟩ := hcs
      exact ⟨zs, .inr ⟨_, rfl, hl, hm, by simpa using hz, hcell, hwz⟩⟩
  obtain ⟨a2, rfl, rfl, rfl, w2⟩ := open_int Try.underlying2 (hval 2 2 v2 rfl rfl) h2
  clear hA0
  refine (walk W a0 len0 cap0 z0 w0 a1 len1 cap1 z1 w1 a2 w2).mono fun e W' ⟨he, bel⟩ => ?_
  subst he
  exact ⟨_, rfl, _, _, _, [], _, [], hW', trodAll_mk1 (shut_bool Try.underlying4 _), (trodAll_cons_mk (Below.trod laidOut (by kernel_rfl) (of_decide_eq_true (by kernel_rfl)) k0 bel lt0) (trodAll_cons_mk (Below.trod laidOut (by kernel_rfl) (of_decide_eq_true (by kernel_rfl)) k1 bel lt1) (trodAll_cons_mk (shut_int Try.underlying2 w2) trodAll_mk0))), rfl, bel.frame _, fun h => by cases h⟩

set_option maxRecDepth 100000 in
theorem lifted (os : Os) (started : os.Started) (H : Type) (enc : TypeId × Value → H) :
    ReturnsInHanded {} Try.checked os 7 .any (Rows.fnExactDustAlongSpec.pre6 enc Try.prog Try.f7 Rows.fnExactDustAlongRow.domain false) (Rows.fnExactDustAlongSpec.post enc Try.prog Try.f7 false true false false) := by
  refine returnsInHanded_of_change (C := Try.checked) own started (by kernel_rfl) Try.func7
    (ChangeSpec.witness6 (enc := enc) (C := Try.checked) false ⟨#[], #[.slice none 0 0, .slice none 0 0, .int .i64 0], []⟩ 8 (by kernel_rfl) (by kernel_rfl) (by kernel_rfl) (by kernel_rfl)) ?_
  intro W base args ds gs before hval hW hcnd _
  exact contract H enc W base args ds gs before hval hW

set_option maxHeartbeats 4000000 in
theorem facts : joinedFacts Try.pinned.checked.prog 7 Try.f7 Rows.fnExactDustAlongSpec Rows.fnExactDustAlongRow = true := by
  unfold joinedFacts
  simp only [Bool.and_eq_true]
  repeat' apply And.intro
  all_goals first
    | (with_reducible exact fxMay)
    | (rw [fxLifts]; as_aux_lemma => kernel_rfl)
    | (rw [fxMake]; as_aux_lemma => kernel_rfl)
    | (as_aux_lemma => kernel_rfl)
theorem proved : Rows.FnExactDustAlongSaid :=
  OpenClaim.holds_of_wide 7 Try.f7 rfl rfl rfl rfl rfl rfl rfl ⟨rfl, rfl, rfl, rfl, rfl⟩ rfl rfl rfl rfl rfl (by kernel_rfl) Try.func7 facts
    (of_decide_eq_true (by kernel_rfl)) (by unfold Func.isWrapper; first | (rw [if_pos (by decide +kernel)]; kernel_rfl) | (rw [if_neg (by decide +kernel)]; exact ⟨rfl, rfl⟩))
    (fun os started H enc _ => lifted os started H enc)
#print axioms proved
end Go.Proofs.Ytnlkikdgffaeeaa.fnExactDustAlong
