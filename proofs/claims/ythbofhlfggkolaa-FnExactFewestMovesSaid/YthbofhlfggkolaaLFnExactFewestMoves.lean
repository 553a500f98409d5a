/-
  PROVED: for every input the function laws.FnExactFewestMoves returns true and leaves its arguments as they were. Conditions: none.
-/
import Derived.Test.YthbofhlfggkolaaRows
import Derived.Test.YthbofhlfggkolaaKo
import Derived.Test.YthbofhlfggkolaaKy
import Derived.Test.YthbofhlfggkolaaJo
import Derived.Test.YthbofhlfggkolaaWe
import Derived.Test.YthbofhlfggkolaaQl
import Derived.Test.YthbofhlfggkolaaMk
import Derived.Test.YthbofhlfggkolaaGg
import Derived.Test.YthbofhlfggkolaaFx
import Derived.WalkKit
import Derived.ProofKit
import Derived.OpenShut
import Derived.ShutString
import Derived.ChangeOld
import Derived.Below
import Derived.Carry
namespace Go.Proofs.Ythbofhlfggkolaa.fnExactFewestMoves
open Go.ChangeShapes Go.WideShapes Go.ChangeAt Go.RowKit
open Go.ChangeMaps (open_string shut_string)

set_option linter.unusedVariables false
set_option linter.unusedSimpArgs false

theorem own : ownKnob Try.prog.godebug = none := by kernel_rfl
theorem laidOut : laidOutB Try.prog = true := by kernel_rfl
theorem ownB_read {w : World} {B g n cap : Nat} {xs : List Bool} (h : OwnB w B (.slice (some ⟨g, 0, none⟩) n cap) xs) : BoR w (some ⟨g, 0, none⟩) xs := by
  obtain ⟨A, c, e, hr⟩ := h.read
  injection e with e1 e2 e3
  subst e1
  exact hr
set_option maxRecDepth 100000 in
set_option maxHeartbeats 4000000 in
theorem walk (w : World) (A0 : Option Addr) (C0 : Nat) (x0 : List (List Int)) (l0 : x0.length ≤ maxLen) (r0 : RowsR w A0 x0) (f0 : rowsFit x0) (A1 : Option Addr) (C1 : Nat) (x1 : List Bool) (l1 : x1.length ≤ maxLen) (r1 : BoR w A1 x1) (f1 : True) (A2 : Option Addr) (C2 : Nat) (x2 : List Bool) (l2 : x2.length ≤ maxLen) (r2 : BoR w A2 x2) (f2 : True) :
    Calls Try.prog 8 #[.slice A0 x0.length C0, .slice A1 x1.length C1, .slice A2 x2.length C2] w fun e w' => e = .returned (.bool true) ∧ Below w.heap.size w w' := by
  have HLL0 := Lib.hid l0
  have HR0 := Lib.hid r0
  have S0 := Lib.hid f0
  clear r0
  have HLL1 := Lib.hid l1
  have HR1 := Lib.hid r1
  clear r1
  have HLL2 := Lib.hid l2
  have HR2 := Lib.hid r2
  clear r2
  by_cases hlong1 : 1048576 < x1.length
  · have t1 : (1048576 : Int) < (x1.length : Int) := by omega
    go_enter Try.func8, Try.ntmps8
    go_wp2
    go_ret
    exact ⟨rfl, Below.refl _ _⟩
  have HL1 := Lib.hid (show x1.length ≤ 1048576 by omega)
  have t1_1 : ¬ (1048576 : Int) < (x1.length : Int) := by omega
  have t2_1 : decide ((1048576 : Int) < (x1.length : Int)) = false := decide_eq_false t1_1
  clear hlong1
  by_cases hlong2 : 1048576 < x2.length
  · have t1 : (1048576 : Int) < (x2.length : Int) := by omega
    go_enter Try.func8, Try.ntmps8
    go_wp2
    go_ret
    exact ⟨rfl, Below.refl _ _⟩
  have HL2 := Lib.hid (show x2.length ≤ 1048576 by omega)
  have t1_2 : ¬ (1048576 : Int) < (x2.length : Int) := by omega
  have t2_2 : decide ((1048576 : Int) < (x2.length : Int)) = false := decide_eq_false t1_2
  clear hlong2
  by_cases hs0 : szSS 1048576 x0 < 0
  · skip
    go_enter Try.func8, Try.ntmps8
    go_wp2_with fail
    have R0_0 := Lib.hid (show RowsR w A0 x0 from HR0.out)
    have R1_0 := Lib.hid (show BoR w A1 x1 from HR1.out)
    have R2_0 := Lib.hid (show BoR w A2 x2 from HR2.out)
    go_wp2_with fail
    (with_reducible refine (szInt64SS_any A0 C0 x0 (1048576) _ R0_0.out S0.out HLL0.out (by omega)).mono ?_)
    rintro e w1 ⟨rfl, hd1⟩
    have HB_1 := Lib.hid (show Below w.heap.size w w1 from hd1)
    have R0_1 := Lib.hid (show RowsR w1 A0 x0 from RowsR.below R0_0.out hd1)
    have R1_1 := Lib.hid (show BoR w1 A1 x1 from BoR.below R1_0.out hd1)
    have R2_1 := Lib.hid (show BoR w1 A2 x2 from BoR.below R2_0.out hd1)
    clear R0_0 R1_0 R2_0
    clear hd1
    go_wp2
    go_ret
    exact ⟨rfl, HB_1.out⟩
  have HL0 := Lib.hid (show x0.length ≤ 1048576 from by have h8 := (szSS_bd (left := 1048576) (by omega) (Int.not_lt.1 hs0)).1; omega)
  have HLR0 := Lib.hid (show ∀ r ∈ x0, r.length ≤ 1048576 from fun r hr => by have h8 := (szSS_bd (left := 1048576) (by omega) (Int.not_lt.1 hs0)).2 r hr; omega)
  have HLN := Lib.hid (fmL_len x1 x2 x0)
  have htot := szSS_tot (xs := x0) (left := 1048576) (by omega) (Int.not_lt.1 hs0)
  have htn : totS x0 x0.length ≤ 1048576 := by omega
  have HB0 := Lib.hid (Below.refl w.heap.size w)
  go_enter Try.func8, Try.ntmps8
  go_wp2_with fail
  (with_reducible refine (szInt64SS_any A0 C0 x0 (1048576) _ (HR0.out.below HB0.out) S0.out HLL0.out (by omega)).mono ?_)
  rintro e W1 ⟨rfl, hd⟩
  have B1 := Lib.hid (show Below w.heap.size w W1 from hd)
  have HB1 := Lib.hid (HB0.out.trans (B1.out.mono HB0.out.size))
  have hs_1 : w.heap.size ≤ W1.heap.size := B1.out.size
  try clear hd
  go_wp2_with fail
  (with_reducible refine (toInt64SS_own A0 C0 x0 _ (HR0.out.below HB1.out) HL0.out HLR0.out).mono ?_)
  rintro e W2 ⟨gs0, rfl, ho, hd⟩
  have B2 := Lib.hid (show Below W1.heap.size W1 W2 from hd)
  have HB2 := Lib.hid (HB1.out.trans (B2.out.mono HB1.out.size))
  have hs_2 : W1.heap.size ≤ W2.heap.size := B2.out.size
  have Os0_2 := Lib.hid (OwnSSH.of ho)
  clear ho
  try clear hd
  go_wp2_with fail
  (with_reducible refine (toBoolS_own A1 C1 x1 _ (HR1.out.below HB2.out) HL1.out).mono ?_)
  rintro e W3 ⟨gs1, rfl, ho, hd⟩
  have B3 := Lib.hid (show Below W2.heap.size W2 W3 from hd)
  have HB3 := Lib.hid (HB2.out.trans (B3.out.mono HB2.out.size))
  have hs_3 : W2.heap.size ≤ W3.heap.size := B3.out.size
  have Os0_3 := Lib.hid (Os0_2.out.below B3.out)
  have Os1_3 := Lib.hid ho
  clear ho
  try clear hd
  go_wp2_with fail
  (with_reducible refine (toBoolS_own A2 C2 x2 _ (HR2.out.below HB3.out) HL2.out).mono ?_)
  rintro e W4 ⟨gs2, rfl, ho, hd⟩
  have B4 := Lib.hid (show Below W3.heap.size W3 W4 from hd)
  have HB4 := Lib.hid (HB3.out.trans (B4.out.mono HB3.out.size))
  have hs_4 : W3.heap.size ≤ W4.heap.size := B4.out.size
  have Os0_4 := Lib.hid (Os0_3.out.below B4.out)
  have Os1_4 := Lib.hid (Os1_3.out.below B4.out)
  have Os2_4 := Lib.hid ho
  clear ho
  try clear hd
  go_wp2_with fail
  (with_reducible refine (sFewestMoves_any (some ⟨gs0, 0, none⟩) x0.length x0 (some ⟨gs1, 0, none⟩) x1.length x1 (some ⟨gs2, 0, none⟩) x2.length x2 _ Os0_4.out.ss.rows HL0.out HLR0.out (ownB_read Os1_4.out) HL1.out (ownB_read Os2_4.out) HL2.out).mono ?_)
  rintro e W5 ⟨vw, rfl, ho, hd⟩
  have B5 := Lib.hid (show Below W4.heap.size W4 W5 from hd)
  have HB5 := Lib.hid (HB4.out.trans (B5.out.mono HB4.out.size))
  have hs_5 : W4.heap.size ≤ W5.heap.size := B5.out.size
  have Os0_5 := Lib.hid (Os0_4.out.below B5.out)
  have Os1_5 := Lib.hid (Os1_4.out.below B5.out)
  have Os2_5 := Lib.hid (Os2_4.out.below B5.out)
  have Ow_5 := Lib.hid ho
  clear ho
  try clear hd
  go_wp2_with fail
  (with_reducible refine (toInt64SS_own A0 C0 x0 _ (HR0.out.below HB5.out) HL0.out HLR0.out).mono ?_)
  rintro e W6 ⟨gx0, rfl, ho, hd⟩
  have B6 := Lib.hid (show Below W5.heap.size W5 W6 from hd)
  have HB6 := Lib.hid (HB5.out.trans (B6.out.mono HB5.out.size))
  have hs_6 : W5.heap.size ≤ W6.heap.size := B6.out.size
  have Ow_6 := Lib.hid (Ow_5.out.below B6.out)
  have Ox0_6 := Lib.hid (OwnSSH.of ho)
  clear ho
  try clear hd
  go_wp2_with fail
  (with_reducible refine (toBoolS_own A1 C1 x1 _ (HR1.out.below HB6.out) HL1.out).mono ?_)
  rintro e W7 ⟨gx1, rfl, ho, hd⟩
  have B7 := Lib.hid (show Below W6.heap.size W6 W7 from hd)
  have HB7 := Lib.hid (HB6.out.trans (B7.out.mono HB6.out.size))
  have hs_7 : W6.heap.size ≤ W7.heap.size := B7.out.size
  have Ow_7 := Lib.hid (Ow_6.out.below B7.out)
  have Ox0_7 := Lib.hid (Ox0_6.out.below B7.out)
  have Ox1_7 := Lib.hid ho
  clear ho
  try clear hd
  go_wp2_with fail
  (with_reducible refine (toBoolS_own A2 C2 x2 _ (HR2.out.below HB7.out) HL2.out).mono ?_)
  rintro e W8 ⟨gx2, rfl, ho, hd⟩
  have B8 := Lib.hid (show Below W7.heap.size W7 W8 from hd)
  have HB8 := Lib.hid (HB7.out.trans (B8.out.mono HB7.out.size))
  have hs_8 : W7.heap.size ≤ W8.heap.size := B8.out.size
  have Ow_8 := Lib.hid (Ow_7.out.below B8.out)
  have Ox0_8 := Lib.hid (Ox0_7.out.below B8.out)
  have Ox1_8 := Lib.hid (Ox1_7.out.below B8.out)
  have Ox2_8 := Lib.hid ho
  clear ho
  try clear hd
  go_wp2_with fail
  (with_reducible refine (iFewestMoves_any (some ⟨gx0, 0, none⟩) x0.length x0 (some ⟨gx1, 0, none⟩) x1.length x1 (some ⟨gx2, 0, none⟩) x2.length x2 _ Ox0_8.out.ss.rows HL0.out HLR0.out (ownB_read Ox1_8.out) HL1.out (ownB_read Ox2_8.out) HL2.out).mono ?_)
  rintro e W9 ⟨vg, rfl, ho, hd⟩
  have B9 := Lib.hid (show Below W8.heap.size W8 W9 from hd)
  have HB9 := Lib.hid (HB8.out.trans (B9.out.mono HB8.out.size))
  have hs_9 : W8.heap.size ≤ W9.heap.size := B9.out.size
  have Ow_9 := Lib.hid (Ow_8.out.below B9.out)
  have Ox0_9 := Lib.hid (Ox0_8.out.below B9.out)
  have Ox1_9 := Lib.hid (Ox1_8.out.below B9.out)
  have Ox2_9 := Lib.hid (Ox2_8.out.below B9.out)
  have Og_9 := Lib.hid ho
  clear ho
  try clear hd
  go_wp2_with fail
  (with_reducible refine (eqInt64S_w vg vw (fmL x1 x2 x0) _ (RowW.of_ownI Og_9.out) (RowW.of_ownI Ow_9.out) (by have := HLN.out; omega)).mono ?_)
  rintro e W10 ⟨rfl, n10, hn⟩
  have B10 := Lib.hid (show Below W9.heap.size W9 W10 from hn ▸ below_drewN (Below.refl _ _) n10)
  have HB10 := Lib.hid (HB9.out.trans (B10.out.mono HB9.out.size))
  have hs_10 : W9.heap.size ≤ W10.heap.size := B10.out.size
  have Ow_10 := Lib.hid (Ow_9.out.below B10.out)
  have Ox0_10 := Lib.hid (Ox0_9.out.below B10.out)
  have Ox1_10 := Lib.hid (Ox1_9.out.below B10.out)
  have Ox2_10 := Lib.hid (Ox2_9.out.below B10.out)
  have Og_10 := Lib.hid (Og_9.out.below B10.out)
  clear hn
  try clear hd
  go_wp2_with fail
  (with_reducible refine (toInt64SS_own A0 C0 x0 _ (HR0.out.below HB10.out) HL0.out HLR0.out).mono ?_)
  rintro e W11 ⟨gb0, rfl, ho, hd⟩
  have B11 := Lib.hid (show Below W10.heap.size W10 W11 from hd)
  have HB11 := Lib.hid (HB10.out.trans (B11.out.mono HB10.out.size))
  have hs_11 : W10.heap.size ≤ W11.heap.size := B11.out.size
  have Ow_11 := Lib.hid (Ow_10.out.below B11.out)
  have Ox0_11 := Lib.hid (Ox0_10.out.below B11.out)
  have Ox1_11 := Lib.hid (Ox1_10.out.below B11.out)
  have Ox2_11 := Lib.hid (Ox2_10.out.below B11.out)
  have Og_11 := Lib.hid (Og_10.out.below B11.out)
  have Ob0_11 := Lib.hid (OwnSSH.of ho)
  clear ho
  try clear hd
  go_wp2_with fail
  (with_reducible refine (eqInt64SS_w (some ⟨gx0, 0, none⟩) (some ⟨gb0, 0, none⟩) x0.length x0.length x0 _ Ox0_11.out.ss.rows Ob0_11.out.ss.rows HL0.out HLR0.out).mono ?_)
  rintro e W12 ⟨rfl, hd⟩
  have B12 := Lib.hid (show Below W11.heap.size W11 W12 from hd)
  have HB12 := Lib.hid (HB11.out.trans (B12.out.mono HB11.out.size))
  have hs_12 : W11.heap.size ≤ W12.heap.size := B12.out.size
  have Ow_12 := Lib.hid (Ow_11.out.below B12.out)
  have Ox0_12 := Lib.hid (Ox0_11.out.below B12.out)
  have Ox1_12 := Lib.hid (Ox1_11.out.below B12.out)
  have Ox2_12 := Lib.hid (Ox2_11.out.below B12.out)
  have Og_12 := Lib.hid (Og_11.out.below B12.out)
  have Ob0_12 := Lib.hid (Ob0_11.out.below B12.out)
  try clear hd
  go_wp2_with fail
  (with_reducible refine (toBoolS_own A1 C1 x1 _ (HR1.out.below HB12.out) HL1.out).mono ?_)
  rintro e W13 ⟨gb1, rfl, ho, hd⟩
  have B13 := Lib.hid (show Below W12.heap.size W12 W13 from hd)
  have HB13 := Lib.hid (HB12.out.trans (B13.out.mono HB12.out.size))
  have hs_13 : W12.heap.size ≤ W13.heap.size := B13.out.size
  have Ow_13 := Lib.hid (Ow_12.out.below B13.out)
  have Ox0_13 := Lib.hid (Ox0_12.out.below B13.out)
  have Ox1_13 := Lib.hid (Ox1_12.out.below B13.out)
  have Ox2_13 := Lib.hid (Ox2_12.out.below B13.out)
  have Og_13 := Lib.hid (Og_12.out.below B13.out)
  have Ob1_13 := Lib.hid ho
  clear ho
  try clear hd
  go_wp2_with fail
  (with_reducible refine (eqBoolS_same (some ⟨gx1, 0, none⟩) (some ⟨gb1, 0, none⟩) x1.length x1.length x1 _ (ownB_read Ox1_13.out) (ownB_read Ob1_13.out) HL1.out).mono ?_)
  rintro e W14 ⟨rfl, hd⟩
  have B14 := Lib.hid (show Below W13.heap.size W13 W14 from hd)
  have HB14 := Lib.hid (HB13.out.trans (B14.out.mono HB13.out.size))
  have hs_14 : W13.heap.size ≤ W14.heap.size := B14.out.size
  have Ow_14 := Lib.hid (Ow_13.out.below B14.out)
  have Ox0_14 := Lib.hid (Ox0_13.out.below B14.out)
  have Ox1_14 := Lib.hid (Ox1_13.out.below B14.out)
  have Ox2_14 := Lib.hid (Ox2_13.out.below B14.out)
  have Og_14 := Lib.hid (Og_13.out.below B14.out)
  have Ob1_14 := Lib.hid (Ob1_13.out.below B14.out)
  try clear hd
  go_wp2_with fail
  (with_reducible refine (toBoolS_own A2 C2 x2 _ (HR2.out.below HB14.out) HL2.out).mono ?_)
  rintro e W15 ⟨gb2, rfl, ho, hd⟩
  have B15 := Lib.hid (show Below W14.heap.size W14 W15 from hd)
  have HB15 := Lib.hid (HB14.out.trans (B15.out.mono HB14.out.size))
  have hs_15 : W14.heap.size ≤ W15.heap.size := B15.out.size
  have Ow_15 := Lib.hid (Ow_14.out.below B15.out)
  have Ox0_15 := Lib.hid (Ox0_14.out.below B15.out)
  have Ox1_15 := Lib.hid (Ox1_14.out.below B15.out)
  have Ox2_15 := Lib.hid (Ox2_14.out.below B15.out)
  have Og_15 := Lib.hid (Og_14.out.below B15.out)
  have Ob2_15 := Lib.hid ho
  clear ho
  try clear hd
  go_wp2_with fail
  (with_reducible refine (eqBoolS_same (some ⟨gx2, 0, none⟩) (some ⟨gb2, 0, none⟩) x2.length x2.length x2 _ (ownB_read Ox2_15.out) (ownB_read Ob2_15.out) HL2.out).mono ?_)
  rintro e W16 ⟨rfl, hd⟩
  have B16 := Lib.hid (show Below W15.heap.size W15 W16 from hd)
  have HB16 := Lib.hid (HB15.out.trans (B16.out.mono HB15.out.size))
  have hs_16 : W15.heap.size ≤ W16.heap.size := B16.out.size
  have Ow_16 := Lib.hid (Ow_15.out.below B16.out)
  have Ox0_16 := Lib.hid (Ox0_15.out.below B16.out)
  have Ox1_16 := Lib.hid (Ox1_15.out.below B16.out)
  have Ox2_16 := Lib.hid (Ox2_15.out.below B16.out)
  have Og_16 := Lib.hid (Og_15.out.below B16.out)
  have Ob2_16 := Lib.hid (Ob2_15.out.below B16.out)
  try clear hd
  go_wp2_with fail
  (with_reducible refine (markInt64SSH_any W5.heap.size W6.heap.size (.slice (some ⟨gx0, 0, none⟩) x0.length x0.length) x0 1 _ Ox0_16.out (by omega) HL0.out HLR0.out (by omega) htn).mono ?_)
  rintro e W17 ⟨rfl, hm⟩
  have M17 := Lib.hid hm
  clear hm
  have hs_17 : W16.heap.size ≤ W17.heap.size := M17.out.size
  have HB17 := Lib.hid (M17.out.below HB16.out (by omega) (by omega))
  have Ow_17 := Lib.hid (show OwnI W17 W4.heap.size vw (fmL x1 x2 x0) from Mid.row Ow_16.out M17.out (fun q hq => by have := Ow_5.out.lt q hq; omega))
  have Ox1_17 := Lib.hid (show OwnB W17 W6.heap.size (.slice (some ⟨gx1, 0, none⟩) x1.length x1.length) x1 from Mid.row Ox1_16.out M17.out (fun q hq => by have := Ox1_7.out.lt q hq; omega))
  have Ox2_17 := Lib.hid (show OwnB W17 W7.heap.size (.slice (some ⟨gx2, 0, none⟩) x2.length x2.length) x2 from Mid.row Ox2_16.out M17.out (fun q hq => by have := Ox2_8.out.lt q hq; omega))
  have Og_17 := Lib.hid (show OwnI W17 W8.heap.size vg (fmL x1 x2 x0) from Mid.row Og_16.out M17.out (fun q hq => by have := Og_9.out.lt q hq; omega))
  go_wp2_with fail
  have hml1 : x1.length ≤ 1048576 := HL1.out
  (with_reducible refine (markBoolS_any W6.heap.size (.slice (some ⟨gx1, 0, none⟩) x1.length x1.length) x1 (1 + (totS x0 x0.length : Int)) _ Ox1_17.out HL1.out (by omega)).mono ?_)
  rintro e W18 ⟨rfl, ho, hg⟩
  have G18 := Lib.hid hg
  have hltx1 := (Ox1_7.out.lt gx1 rfl)
  clear ho hg
  have hs_18 : W17.heap.size ≤ W18.heap.size := G18.out.size
  have HB18 := Lib.hid (Below.grown HB17.out G18.out HB17.out.size (fun k hk => by have := (Ox1_17.out.lt k hk).1; omega))
  have Ow_18 := Lib.hid (own_far Ow_17.out (fun k hk => by have := Ow_5.out.lt k hk; omega) (show W17.grownBy W18 (some gx1) from G18.out))
  have Ox2_18 := Lib.hid (ownB_far Ox2_17.out (fun k hk => by have := Ox2_8.out.lt k hk; omega) (show W17.grownBy W18 (some gx1) from G18.out))
  have Og_18 := Lib.hid (own_far Og_17.out (fun k hk => by have := Og_9.out.lt k hk; omega) (show W17.grownBy W18 (some gx1) from G18.out))
  go_wp2_with fail
  have hml2 : x2.length ≤ 1048576 := HL2.out
  (with_reducible refine (markBoolS_any W7.heap.size (.slice (some ⟨gx2, 0, none⟩) x2.length x2.length) x2 (1 + (totS x0 x0.length : Int) + (x1.length : Int)) _ Ox2_18.out HL2.out (by omega)).mono ?_)
  rintro e W19 ⟨rfl, ho, hg⟩
  have G19 := Lib.hid hg
  have hltx2 := (Ox2_8.out.lt gx2 rfl)
  clear ho hg
  have hs_19 : W18.heap.size ≤ W19.heap.size := G19.out.size
  have HB19 := Lib.hid (Below.grown HB18.out G19.out HB18.out.size (fun k hk => by have := (Ox2_18.out.lt k hk).1; omega))
  have Ow_19 := Lib.hid (own_far Ow_18.out (fun k hk => by have := Ow_5.out.lt k hk; omega) (show W18.grownBy W19 (some gx2) from G19.out))
  have Og_19 := Lib.hid (own_far Og_18.out (fun k hk => by have := Og_9.out.lt k hk; omega) (show W18.grownBy W19 (some gx2) from G19.out))
  have hmk0 : ¬ (1 + (totS x0 x0.length : Int) + (x1.length : Int) + (x2.length : Int) < 0) := by omega
  go_wp2_with fail
  (with_reducible refine (eqInt64S_w vg vw (fmL x1 x2 x0) _ (RowW.of_ownI Og_19.out) (RowW.of_ownI Ow_19.out) (by have := HLN.out; omega)).mono ?_)
  rintro e W20 ⟨rfl, n20, hn⟩
  have B20 := Lib.hid (show Below W19.heap.size W19 W20 from hn ▸ below_drewN (Below.refl _ _) n20)
  have HB20 := Lib.hid (HB19.out.trans (B20.out.mono HB19.out.size))
  have hs_20 : W19.heap.size ≤ W20.heap.size := B20.out.size
  have Ow_20 := Lib.hid (Ow_19.out.below B20.out)
  have Og_20 := Lib.hid (Og_19.out.below B20.out)
  clear hn
  try clear hd
  go_wp2_with fail
  (with_reducible refine (markInt64S_any W8.heap.size vg (fmL x1 x2 x0) 1 _ Og_20.out (by first | omega | (have := HLN.out; omega)) (by omega)).mono ?_)
  rintro e W21 ⟨rfl, ho, hg⟩
  have G21 := Lib.hid hg
  have Og_21 := Lib.hid ho
  clear ho hg
  have hs_21 : W20.heap.size ≤ W21.heap.size := G21.out.size
  have HB21 := Lib.hid (Below.grown HB20.out G21.out HB20.out.size (fun k hk => by have := (Og_20.out.lt k hk).1; omega))
  have Ow_21 := Lib.hid (OwnI.apart Ow_20.out (fun k hk => by have := (Ow_5.out.lt k hk).2; omega) Og_20.out G21.out)
  go_wp2_with fail
  (with_reducible refine (heldInt64S_any W8.heap.size vg (fmL x1 x2 x0).length 1 _ Og_21.out (by have := HLN.out; omega) (by omega)).mono ?_)
  rintro e w' ⟨rfl, rfl⟩
  have hm0 : ¬ (1 + ((fmL x1 x2 x0).length : Int) < 0) := by omega
  go_wp2_with fail
  (with_reducible refine (toInt64SS_own A0 C0 x0 _ (HR0.out.below HB21.out) HL0.out HLR0.out).mono ?_)
  rintro e W22 ⟨gh0, rfl, ho, hd⟩
  have B22 := Lib.hid (show Below W21.heap.size W21 W22 from hd)
  have HB22 := Lib.hid (HB21.out.trans (B22.out.mono HB21.out.size))
  have hs_22 : W21.heap.size ≤ W22.heap.size := B22.out.size
  have Ow_22 := Lib.hid (Ow_21.out.below B22.out)
  have Og_22 := Lib.hid (Og_21.out.below B22.out)
  have Oh0_22 := Lib.hid (OwnSSH.of ho)
  clear ho
  try clear hd
  go_wp2_with fail
  (with_reducible refine (toBoolS_own A1 C1 x1 _ (HR1.out.below HB22.out) HL1.out).mono ?_)
  rintro e W23 ⟨gh1, rfl, ho, hd⟩
  have B23 := Lib.hid (show Below W22.heap.size W22 W23 from hd)
  have HB23 := Lib.hid (HB22.out.trans (B23.out.mono HB22.out.size))
  have hs_23 : W22.heap.size ≤ W23.heap.size := B23.out.size
  have Ow_23 := Lib.hid (Ow_22.out.below B23.out)
  have Og_23 := Lib.hid (Og_22.out.below B23.out)
  have Oh0_23 := Lib.hid (Oh0_22.out.below B23.out)
  have Oh1_23 := Lib.hid ho
  clear ho
  try clear hd
  go_wp2_with fail
  (with_reducible refine (toBoolS_own A2 C2 x2 _ (HR2.out.below HB23.out) HL2.out).mono ?_)
  rintro e W24 ⟨gh2, rfl, ho, hd⟩
  have B24 := Lib.hid (show Below W23.heap.size W23 W24 from hd)
  have HB24 := Lib.hid (HB23.out.trans (B24.out.mono HB23.out.size))
  have hs_24 : W23.heap.size ≤ W24.heap.size := B24.out.size
  have Ow_24 := Lib.hid (Ow_23.out.below B24.out)
  have Og_24 := Lib.hid (Og_23.out.below B24.out)
  have Oh0_24 := Lib.hid (Oh0_23.out.below B24.out)
  have Oh1_24 := Lib.hid (Oh1_23.out.below B24.out)
  have Oh2_24 := Lib.hid ho
  clear ho
  try clear hd
  go_wp2_with fail
  (with_reducible refine (iFewestMoves_any (some ⟨gh0, 0, none⟩) x0.length x0 (some ⟨gh1, 0, none⟩) x1.length x1 (some ⟨gh2, 0, none⟩) x2.length x2 _ Oh0_24.out.ss.rows HL0.out HLR0.out (ownB_read Oh1_24.out) HL1.out (ownB_read Oh2_24.out) HL2.out).mono ?_)
  rintro e W25 ⟨vh, rfl, ho, hd⟩
  have B25 := Lib.hid (show Below W24.heap.size W24 W25 from hd)
  have HB25 := Lib.hid (HB24.out.trans (B25.out.mono HB24.out.size))
  have hs_25 : W24.heap.size ≤ W25.heap.size := B25.out.size
  have Ow_25 := Lib.hid (Ow_24.out.below B25.out)
  have Og_25 := Lib.hid (Og_24.out.below B25.out)
  have Oh0_25 := Lib.hid (Oh0_24.out.below B25.out)
  have Oh1_25 := Lib.hid (Oh1_24.out.below B25.out)
  have Oh2_25 := Lib.hid (Oh2_24.out.below B25.out)
  have Oh_25 := Lib.hid ho
  clear ho
  try clear hd
  go_wp2_with fail
  (with_reducible refine (eqInt64S_w vh vw (fmL x1 x2 x0) _ (RowW.of_ownI Oh_25.out) (RowW.of_ownI Ow_25.out) (by have := HLN.out; omega)).mono ?_)
  rintro e W26 ⟨rfl, n26, hn⟩
  have B26 := Lib.hid (show Below W25.heap.size W25 W26 from hn ▸ below_drewN (Below.refl _ _) n26)
  have HB26 := Lib.hid (HB25.out.trans (B26.out.mono HB25.out.size))
  have hs_26 : W25.heap.size ≤ W26.heap.size := B26.out.size
  have Ow_26 := Lib.hid (Ow_25.out.below B26.out)
  have Og_26 := Lib.hid (Og_25.out.below B26.out)
  have Oh0_26 := Lib.hid (Oh0_25.out.below B26.out)
  have Oh1_26 := Lib.hid (Oh1_25.out.below B26.out)
  have Oh2_26 := Lib.hid (Oh2_25.out.below B26.out)
  have Oh_26 := Lib.hid (Oh_25.out.below B26.out)
  clear hn
  try clear hd
  go_wp2_with fail
  (with_reducible refine (heldInt64S_any W8.heap.size vg (fmL x1 x2 x0).length 1 _ Og_26.out (by have := HLN.out; omega) (by omega)).mono ?_)
  rintro e w' ⟨rfl, rfl⟩
  go_wp2
  go_ret
  exact ⟨rfl, HB26.out⟩

set_option maxHeartbeats 1000000 in
set_option maxRecDepth 100000 in
theorem contract (H : Type) (enc : TypeId × Value → H) (W : World) (base : Nat) (args : Array Value) (ds gs : List (DataW H)) (before : List MemPlace)
    (hval : ∀ (j : Nat) t v, Try.f8.params[j]? = some t → args[j]? = some v → Value.okWide Try.prog W .any base t v)
    (hW : DataW.Whole enc Try.prog Try.f8.params.toList Rows.fnExactFewestMovesSpec.vars false W args.toList ds gs before) :
    Calls Try.prog 8 args W fun e W' => ∃ v, e = .returned v ∧ Rows.fnExactFewestMovesSpec.post enc Try.prog Try.f8 false true false false W args v W' := by
  have hW' := hW
  obtain ⟨p, q, hA0, hV, rfl, hfz, hnd⟩ := hW
  have hA : DataW.TrodAll enc Try.prog W 0 (fun _ => true) true Try.f8.params.toList args.toList ds p := hA0
  rw [Try.params8] at hA hval
  obtain ⟨v0, vs0, d0, ds0, p0, q0, hargs, rfl, rfl, h0, r0⟩ := trodAll_cons hA
  obtain ⟨v1, vs1, d1, ds1, p1, q1, rfl, rfl, rfl, h1, r1⟩ := trodAll_cons r0
  obtain ⟨v2, vs2, d2, ds2, p2, q2, rfl, rfl, rfl, h2, r2⟩ := trodAll_cons r1
  obtain ⟨rfl, rfl, rfl⟩ := trodAll_nil r2
  obtain rfl : args = #[v0, v1, v2] := by cases args; simp_all
  obtain ⟨rfl, rfl⟩ := trodVars_none hV
  obtain ⟨a0, len0, cap0, rfl⟩ := okWide_slice Try.underlying47 (hval 0 47 v0 rfl rfl)
  have k0 := h0
  have lt0 : ∀ x ∈ p0, x.block < W.heap.size := by obtain ⟨m, hm⟩ := k0; exact DataW.trod_lt m _ _ _ hm
  obtain ⟨fu0, ho0⟩ := h0
  obtain ⟨A0, C0, x0, qx0, lx0, rx0, fx0⟩ := open_rows ho0
  simp only [Value.cells] at qx0
  obtain ⟨rfl, rfl, rfl⟩ : a0 = A0 ∧ len0 = x0.length ∧ cap0 = C0 := by simpa using qx0
  obtain ⟨a1, len1, cap1, rfl⟩ := okWide_slice Try.underlying48 (hval 1 48 v1 rfl rfl)
  have k1 := h1
  have lt1 : ∀ x ∈ p1, x.block < W.heap.size := by obtain ⟨m, hm⟩ := k1; exact DataW.trod_lt m _ _ _ hm
  obtain ⟨fu1, ho1⟩ := h1
  obtain ⟨A1, C1, x1, qx1, lx1, rx1, fx1⟩ := open_bools ho1
  simp only [Value.cells] at qx1
  obtain ⟨rfl, rfl, rfl⟩ : a1 = A1 ∧ len1 = x1.length ∧ cap1 = C1 := by simpa using qx1
  obtain ⟨a2, len2, cap2, rfl⟩ := okWide_slice Try.underlying48 (hval 2 48 v2 rfl rfl)
  have k2 := h2
  have lt2 : ∀ x ∈ p2, x.block < W.heap.size := by obtain ⟨m, hm⟩ := k2; exact DataW.trod_lt m _ _ _ hm
  obtain ⟨fu2, ho2⟩ := h2
  obtain ⟨A2, C2, x2, qx2, lx2, rx2, fx2⟩ := open_bools ho2
  simp only [Value.cells] at qx2
  obtain ⟨rfl, rfl, rfl⟩ : a2 = A2 ∧ len2 = x2.length ∧ cap2 = C2 := by simpa using qx2
  clear hA0
  refine (walk W a0 cap0 x0 lx0 rx0 fx0 a1 cap1 x1 lx1 rx1 fx1 a2 cap2 x2 lx2 rx2 fx2).mono fun e W' ⟨he, bel⟩ => ?_
  subst he
  exact ⟨_, rfl, _, _, _, [], _, [], hW', trodAll_mk1 (shut_bool Try.underlying4 _), (trodAll_cons_mk (Below.trod laidOut (by kernel_rfl) (of_decide_eq_true (by kernel_rfl)) k0 bel lt0) (trodAll_cons_mk (Below.trod laidOut (by kernel_rfl) (of_decide_eq_true (by kernel_rfl)) k1 bel lt1) (trodAll_cons_mk (Below.trod laidOut (by kernel_rfl) (of_decide_eq_true (by kernel_rfl)) k2 bel lt2) trodAll_mk0))), rfl, bel.frame _, fun h => by cases h⟩

set_option maxRecDepth 100000 in
theorem lifted (os : Os) (started : os.Started) (H : Type) (enc : TypeId × Value → H) :
    ReturnsInHanded {} Try.checked os 8 .any (Rows.fnExactFewestMovesSpec.pre6 enc Try.prog Try.f8 Rows.fnExactFewestMovesRow.domain false) (Rows.fnExactFewestMovesSpec.post enc Try.prog Try.f8 false true false false) := by
  refine returnsInHanded_of_change (C := Try.checked) own started (by kernel_rfl) Try.func8
    (ChangeSpec.witness6 (enc := enc) (C := Try.checked) false ⟨#[], #[.slice none 0 0, .slice none 0 0, .slice none 0 0], []⟩ 8 (by kernel_rfl) (by kernel_rfl) (by kernel_rfl) (by kernel_rfl)) ?_
  intro W base args ds gs before hval hW hcnd _
  exact contract H enc W base args ds gs before hval hW

set_option maxHeartbeats 4000000 in
theorem facts : joinedFacts Try.pinned.checked.prog 8 Try.f8 Rows.fnExactFewestMovesSpec Rows.fnExactFewestMovesRow = true := by
  unfold joinedFacts
  simp only [Bool.and_eq_true]
  repeat' apply And.intro
  all_goals first
    | (with_reducible exact fxMay)
    | (rw [fxLifts]; as_aux_lemma => kernel_rfl)
    | (rw [fxMake]; as_aux_lemma => kernel_rfl)
    | (as_aux_lemma => kernel_rfl)
theorem proved : Rows.FnExactFewestMovesSaid :=
  OpenClaim.holds_of_wide 8 Try.f8 rfl rfl rfl rfl rfl rfl rfl ⟨rfl, rfl, rfl, rfl, rfl⟩ rfl rfl rfl rfl rfl (by kernel_rfl) Try.func8 facts
    (of_decide_eq_true (by kernel_rfl)) (by unfold Func.isWrapper; first | (rw [if_pos (by decide +kernel)]; kernel_rfl) | (rw [if_neg (by decide +kernel)]; exact ⟨rfl, rfl⟩))
    (fun os started H enc _ => lifted os started H enc)
#print axioms proved
end Go.Proofs.Ythbofhlfggkolaa.fnExactFewestMoves
