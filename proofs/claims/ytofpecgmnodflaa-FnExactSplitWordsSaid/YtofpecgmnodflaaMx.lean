/-
  Contracts of the laws' marks, exactly: texts, mines that are marked and looked at again. Conditions: those that each theorem states.
-/
import Derived.Test.YtofpecgmnodflaaMk
import Derived.Test.YtofpecgmnodflaaBh
import Derived.Test.YtofpecgmnodflaaSb
import Derived.Test.YtofpecgmnodflaaRg
namespace Go.Proofs.Ytofpecgmnodflaa
open Go.RowKit
set_option linter.unusedVariables false
set_option linter.unusedSimpArgs false

theorem ret_str {a b : ByteArray} (h : a = b) : Ending.returned (.string a) = .returned (.string b) := by rw [h]
/-- The mark of a number. -/
def markT (k : Nat) : ByteArray := if k = 0 then ⟨#[109, 48]⟩ else ⟨(109 :: (revD k).reverse).toArray⟩
theorem digit_one (m : Nat) : strOfNums [48 + (m : Int) % 10] = ⟨#[UInt8.ofNat (48 + m % 10)]⟩ := by
  have h := strOf [UInt8.ofNat (48 + m % 10)]
  have e := u8_dig m
  injection e with _ e
  simp only [List.map_cons, List.map_nil] at h
  rw [e]
  exact h
set_option maxHeartbeats 1000000 in
theorem markText_x (k0 : Nat) (w : World) (hk : k0 ≤ 100000000) : Calls Try.prog 53 #[.int .i64 (k0 : Int)] w fun e w' => e = .returned (.string (markT k0)) ∧ Below w.heap.size w w' := by
  by_cases h0 : k0 = 0
  · subst h0
    go_enter Try.func53, Try.ntmps53
    go_wp2
    go_ret
    exact ⟨rfl, Below.refl _ _⟩
  · have hp : ¬ (k0 : Int) ≤ 0 := by omega
    have hp2 : decide ((k0 : Int) ≤ 0) = false := decide_eq_false hp
    have HL := Lib.hid (lenD (U := k0) (by omega))
    have HT := Lib.hid (show markT k0 = ⟨(109 :: (revD k0).reverse).toArray⟩ from if_neg h0)
    go_enter Try.func53, Try.ntmps53
    go_wp2
    go_loopw [0, 3] (fun k out wr => ∃ (m : Nat) (L : List UInt8), m ≤ k0 ∧ k = .int .i64 m ∧ out = .string ⟨L.toArray⟩ ∧ Hid ((revD m).reverse ++ L = (revD k0).reverse) ∧ Below w.heap.size w wr) (fun k out wr => (intOf k).toNat)
    case atStart => exact ⟨k0, [], Nat.le_refl _, rfl, rfl, Lib.hid (by simp), Below.refl _ _⟩
    case round =>
      obtain ⟨m, L, hmk, rfl, rfl, HI, hbel⟩ := hrel
      have hLl : L.length ≤ 19 := by
        have h1 := congrArg List.length HI.out
        have h2 := HL.out
        simp only [List.length_append, List.length_reverse] at h1
        omega
      by_cases hm : 0 < m
      · have t1 : (0 : Int) < (m : Int) := by omega
        have hd1 : 0 ≤ 48 + (m : Int) % 10 := by omega
        have hd2 : 48 + (m : Int) % 10 ≤ 57 := by omega
        have hconv := run_convert_bytes_arg (P := Try.prog) (wr.alloc (.cells #[.int .u8 (48 + (m : Int) % 10)] 5)) 115 5 Try.underlying115 Try.underlying5 wr.heap.size 0 1 1 [48 + (m : Int) % 10] rfl (fun i hi => by
          obtain rfl : i = 0 := by omega
          simp)
        replace hconv := hconv 9 Try.underlying9
        rw [digit_one] at hconv
        have e1 := addBig (x := ⟨#[UInt8.ofNat (48 + m % 10)]⟩) (y := ⟨L.toArray⟩) (by show 1 + L.toArray.size ≤ 1000000000; simp; omega)
        have e3 : binOp .add 9 (.string ⟨#[UInt8.ofNat (48 + m % 10)]⟩) (.string ⟨L.toArray⟩) = pure (.string (⟨#[UInt8.ofNat (48 + m % 10)]⟩ ++ ⟨L.toArray⟩)) := (binOp_string_add _ _ _).trans e1
        have HS := Lib.hid (show (revD (m / 10)).reverse ++ (UInt8.ofNat (48 + m % 10) :: L) = (revD k0).reverse by
          rw [← HI.out, revD_pos (show m ≠ 0 by omega)]; simp)
        have HC := Lib.hid (show (⟨#[UInt8.ofNat (48 + m % 10)]⟩ : ByteArray) ++ ⟨L.toArray⟩ = ⟨(UInt8.ofNat (48 + m % 10) :: L).toArray⟩ by apply ByteArray.ext; simp)
        have HB := Lib.hid (hbel.alloc hbel.size (.cells #[.int .u8 (48 + (m : Int) % 10)] 5))
        generalize UInt8.ofNat (48 + m % 10) = D at *
        clear hbel
        go_wp2
        go_roundw
        case rel => exact ⟨m / 10, D :: L, by omega, by first | rfl | (congr 1; omega) | go_num, by rw [HC.out], HS, HB.out⟩
        case measure => simp [intOf]; omega
      · obtain rfl : m = 0 := by omega
        have HI2 := Lib.hid (show L = (revD k0).reverse by have := HI.out; rw [revD_zero] at this; simpa using this)
        have e1 := addBig (x := ⟨#[109]⟩) (y := ⟨L.toArray⟩) (by show 1 + L.toArray.size ≤ 1000000000; simp; omega)
        have e3 : binOp .add 9 (.string ⟨#[109]⟩) (.string ⟨L.toArray⟩) = pure (.string (⟨#[109]⟩ ++ ⟨L.toArray⟩)) := (binOp_string_add _ _ _).trans e1
        have HFIN := Lib.hid (show (⟨#[109]⟩ : ByteArray) ++ ⟨L.toArray⟩ = markT k0 by rw [HT.out, HI2.out]; apply ByteArray.ext; simp)
        go_wp2
        go_ret
        exact ⟨ret_str HFIN.out, hbel⟩
/-- A marked airway, marked airways. -/
def mkA (k j : Nat) : Aw := ⟨markT (k + 7 * j), k + 7 * j + 1, k + 7 * j + 2, k + 7 * j + 3, k + 7 * j + 4, k + 7 * j + 5, k + 7 * j + 6⟩
def markA (k n : Nat) : List Aw := (List.range n).map (mkA k)
theorem markA_len (k n : Nat) : (markA k n).length = n := by simp [markA]
theorem markA_get (k n j : Nat) (h : j < (markA k n).length) : (markA k n)[j] = mkA k j := by simp [markA]
theorem aws_set (ys : List Aw) (j : Nat) (a : Aw) (h : j < ys.length) : (awsV ys).take (j * 7) ++ a.cells ++ (awsV ys).drop (j * 7 + 7) = awsV (ys.set j a) := by
  have hp : (awsV (ys.take j)).length = j * 7 := by rw [awsV_len, List.length_take]; congr 1; omega
  have hs : ys = ys.take j ++ ys[j] :: ys.drop (j + 1) := by rw [← List.drop_eq_getElem_cons h, List.take_append_drop]
  have e : awsV ys = awsV (ys.take j) ++ (ys[j].cells ++ awsV (ys.drop (j + 1))) := by
    rw [show awsV ys = awsV (ys.take j ++ ys[j] :: ys.drop (j + 1)) from congrArg awsV hs, awsV_app]
    rfl
  rw [e, List.take_left' hp, List.set_eq_take_append_cons_drop, if_pos h, awsV_app]
  rw [show j * 7 + 7 = (awsV (ys.take j) ++ ys[j].cells).length by rw [List.length_append, hp]; rfl, ← List.append_assoc, List.drop_left, List.append_assoc]
  rw [show awsV (a :: ys.drop (j + 1)) = a.cells ++ awsV (ys.drop (j + 1)) from rfl]
theorem set7s {w : World} {g : Nat} {T : TypeId} {ys : List Aw} {j : Nat} (h : BlkV w g T (awsV ys)) (hj : j < ys.length) (a : Aw) (s : ByteArray) (f t l se fr sh : Int) (ha : a = ⟨s, f, t, l, se, fr, sh⟩) :
    BlkV (((((((w.setCell ⟨g, j * 7, none⟩ (.string s)).setCell ⟨g, j * 7 + 1, none⟩ (.int .i64 f)).setCell ⟨g, j * 7 + 2, none⟩ (.int .i64 t)).setCell ⟨g, j * 7 + 3, none⟩ (.int .i64 l)).setCell ⟨g, j * 7 + 4, none⟩ (.int .i64 se)).setCell ⟨g, j * 7 + 5, none⟩ (.int .i64 fr)).setCell ⟨g, j * 7 + 6, none⟩ (.int .i64 sh)) g T (awsV (ys.set j a)) := by
  subst ha
  have := h.set7 (j * 7) ⟨s, f, t, l, se, fr, sh⟩ (by rw [awsV_len]; omega)
  rw [aws_set ys j _ hj] at this
  exact this
set_option maxHeartbeats 4000000 in
set_option maxRecDepth 100000 in
theorem markAirwayS_x (g n k : Nat) (xs : List Aw) (w : World) (hB : BlkV w g 52 (awsV xs)) (hc : xs.length = n) (hn : n ≤ 1048576) (hk : k ≤ 1000) :
    Calls Try.prog 49 #[.slice (some ⟨g, 0, none⟩) n n, .int .i64 (k : Int)] w fun e w' => e = .returned (.int .i64 ((k : Int) + 7 * n)) ∧ BlkV w' g 52 (awsV (markA k n)) ∧ w.grownBy w' (some g) := by
  have HB := Lib.hid hB
  clear hB
  go_enter Try.func49, Try.ntmps49
  go_wp2
  go_loopw [1, 5] (fun m i wr => ∃ (j : Nat) (ys : List Aw), j ≤ n ∧ i = .int .i64 j ∧ m = .int .i64 ((k : Int) + 7 * j) ∧ ys.length = n ∧ Hid (∀ i (h : i < j) (h' : i < ys.length), ys[i] = mkA k i) ∧ BlkV wr g 52 (awsV ys) ∧ w.grownBy wr (some g)) (fun m i wr => n - (intOf i).toNat)
  case atStart => exact ⟨0, xs, by omega, rfl, by simp, hc, Lib.hid (fun i h => absurd h (by omega)), HB.out, World.grownBy.refl _ _⟩
  case round =>
    obtain ⟨j, ys, hj, rfl, rfl, hys, HY, hblk, hgr⟩ := hrel
    by_cases hlt : j < n
    · obtain ⟨q, hq⟩ : ∃ q : Nat, k + 7 * j = q := ⟨_, rfl⟩
      have hq2 : (k : Int) + 7 * (j : Int) = q := by omega
      have hqb : q ≤ 8000000 := by omega
      have HQ := Lib.hid hq
      have HBK := Lib.hid hblk
      have HG := Lib.hid hgr
      rw [hq2]
      clear hq hq2 hblk hgr
      go_wp2_with fail
      (with_reducible refine (markText_x q wr (by omega)).mono ?_)
      rintro e w2 ⟨rfl, hb2⟩
      have HB2 := Lib.hid (HBK.out.below hb2 HBK.out.lt)
      have HG2 := Lib.hid (HG.out.trans (grown_of hb2))
      clear hb2
      have f0 := HB2.out.frozen (j * 7)
      obtain ⟨u0, c0⟩ : ∃ u, w2.cell? ⟨g, j * 7, none⟩ = some u := by
        rw [HB2.out.cell]
        exact ⟨_, List.getElem?_eq_getElem (by rw [awsV_len]; omega)⟩
      have f1 := HB2.out.frozen (j * 7 + 1)
      obtain ⟨u1, c1⟩ : ∃ u, w2.cell? ⟨g, j * 7 + 1, none⟩ = some u := by
        rw [HB2.out.cell]
        exact ⟨_, List.getElem?_eq_getElem (by rw [awsV_len]; omega)⟩
      have f2 := HB2.out.frozen (j * 7 + 2)
      obtain ⟨u2, c2⟩ : ∃ u, w2.cell? ⟨g, j * 7 + 2, none⟩ = some u := by
        rw [HB2.out.cell]
        exact ⟨_, List.getElem?_eq_getElem (by rw [awsV_len]; omega)⟩
      have f3 := HB2.out.frozen (j * 7 + 3)
      obtain ⟨u3, c3⟩ : ∃ u, w2.cell? ⟨g, j * 7 + 3, none⟩ = some u := by
        rw [HB2.out.cell]
        exact ⟨_, List.getElem?_eq_getElem (by rw [awsV_len]; omega)⟩
      have f4 := HB2.out.frozen (j * 7 + 4)
      obtain ⟨u4, c4⟩ : ∃ u, w2.cell? ⟨g, j * 7 + 4, none⟩ = some u := by
        rw [HB2.out.cell]
        exact ⟨_, List.getElem?_eq_getElem (by rw [awsV_len]; omega)⟩
      have f5 := HB2.out.frozen (j * 7 + 5)
      obtain ⟨u5, c5⟩ : ∃ u, w2.cell? ⟨g, j * 7 + 5, none⟩ = some u := by
        rw [HB2.out.cell]
        exact ⟨_, List.getElem?_eq_getElem (by rw [awsV_len]; omega)⟩
      have f6 := HB2.out.frozen (j * 7 + 6)
      obtain ⟨u6, c6⟩ : ∃ u, w2.cell? ⟨g, j * 7 + 6, none⟩ = some u := by
        rw [HB2.out.cell]
        exact ⟨_, List.getElem?_eq_getElem (by rw [awsV_len]; omega)⟩
      have HMK := Lib.hid (show mkA k j = ⟨markT q, (q : Int) + 1, (q : Int) + 1 + 1, (q : Int) + 1 + 1 + 1, (q : Int) + 1 + 1 + 1 + 1, (q : Int) + 1 + 1 + 1 + 1 + 1, (q : Int) + 1 + 1 + 1 + 1 + 1 + 1⟩ by have hq' := HQ.out; unfold mkA; rw [hq']; congr 1 <;> omega)
      have HY2 := Lib.hid (show ∀ i (h : i < j + 1) (h' : i < (ys.set j (mkA k j)).length), (ys.set j (mkA k j))[i] = mkA k i from fun i h h' => by
        rw [List.getElem_set]
        by_cases e : j = i
        · subst e; rw [if_pos rfl]
        · rw [if_neg e]; exact HY.out i (by omega) (by simpa using h'))
      go_wp2
      go_roundw
      case rel => exact ⟨j + 1, ys.set j (mkA k j), by omega, by go_num, by have := HQ.out; congr 1; omega, by rw [List.length_set]; exact hys, HY2, set7s HB2.out (by omega) (mkA k j) _ _ _ _ _ _ _ HMK.out, (((((((HG2.out.trans (grown_set g _ _ _)).trans (grown_set g _ _ _)).trans (grown_set g _ _ _)).trans (grown_set g _ _ _)).trans (grown_set g _ _ _)).trans (grown_set g _ _ _)).trans (grown_set g _ _ _))⟩
      case measure => simp [intOf]; omega
    · obtain rfl : j = n := by omega
      have HG := Lib.hid hgr
      have HE := Lib.hid (show ys = markA k j from List.ext_getElem (by rw [markA_len, hys]) (fun i h1 h2 => by rw [markA_get]; exact HY.out i (by omega) h1))
      have HBK := Lib.hid hblk
      clear hgr hblk
      go_wp2
      go_ret
      exact ⟨rfl, by rw [← HE.out]; exact HBK.out, HG.out⟩
theorem markMine_x (J : Int) (g n k : Nat) (xs : List Aw) (w : World) (hB : BlkV w g 52 (awsV xs)) (hc : xs.length = n) (hn : n ≤ 1048576) (hk : k ≤ 1000) :
    Calls Try.prog 16 #[.agg #[.int .i64 J, .slice (some ⟨g, 0, none⟩) n n], .int .i64 (k : Int)] w fun e w' => e = .returned (.int .i64 ((k : Int) + 7 * n)) ∧ BlkV w' g 52 (awsV (markA k n)) ∧ w.grownBy w' (some g) := by
  have HB := Lib.hid (hB.below (below_box w (.cells #[.int .i64 J, .slice (some ⟨g, 0, none⟩) n n] 31)) hB.lt)
  clear hB
  go_enter Try.func16, Try.ntmps16
  go_wp2_with fail
  (with_reducible refine (markAirwayS_x g n k xs _ HB.out hc hn hk).mono ?_)
  rintro e w1 ⟨rfl, hb, hg⟩
  have HK := Lib.hid hb
  have HG := Lib.hid ((World.grownBy_alloc w (.cells #[.int .i64 J, .slice (some ⟨g, 0, none⟩) n n] 31) (some g)).trans hg)
  clear hg hb
  go_wp2
  go_ret
  exact ⟨rfl, HK.out, HG.out⟩
theorem lay_rowx {w : World} {b o : Nat} {a : Aw} (h : w.rangeAt b o a.cells) :
    (w.cell? ⟨b, o, none⟩ = some (.string a.s) ∧ w.cell? ⟨b, o + 1, none⟩ = some (.int .i64 a.f) ∧ w.cell? ⟨b, o + 2, none⟩ = some (.int .i64 a.t) ∧ w.cell? ⟨b, o + 3, none⟩ = some (.int .i64 a.l)) ∧
    w.cell? ⟨b, o + 4, none⟩ = some (.int .i64 a.se) ∧ w.cell? ⟨b, o + 5, none⟩ = some (.int .i64 a.fr) ∧ w.cell? ⟨b, o + 6, none⟩ = some (.int .i64 a.sh) :=
  ⟨⟨h 0 _ rfl, h 1 _ rfl, h 2 _ rfl, h 3 _ rfl⟩, h 4 _ rfl, h 5 _ rfl, h 6 _ rfl⟩
set_option maxHeartbeats 4000000 in
set_option maxRecDepth 100000 in
theorem heldAirwayS_x (A : Option Addr) (n k cap : Nat) (w : World) (hr : AwR w A (markA k n)) (hn : n ≤ 1048576) (hk : k ≤ 1000) :
    Calls Try.prog 57 #[.slice A n cap, .int .i64 (k : Int)] w fun e w' => e = .returned (.int .i64 ((k : Int) + 7 * n)) ∧ Below w.heap.size w w' := by
  have HR := Lib.hid hr
  clear hr
  go_enter Try.func57, Try.ntmps57
  go_wp2
  go_loopw [1, 5] (fun m i wr => ∃ j : Nat, j ≤ n ∧ i = .int .i64 j ∧ m = .int .i64 ((k : Int) + 7 * j) ∧ Below w.heap.size w wr) (fun m i wr => n - (intOf i).toNat)
  case atStart => exact ⟨0, by omega, rfl, by simp, Below.refl _ _⟩
  case round =>
    obtain ⟨j, hj, rfl, rfl, hbel⟩ := hrel
    by_cases hlt : j < n
    · obtain ⟨b, off, rfl, hrg⟩ := HR.out.below hbel j (by rw [markA_len]; exact hlt)
      rw [markA_get] at hrg
      obtain ⟨q, hq⟩ : ∃ q : Nat, k + 7 * j = q := ⟨_, rfl⟩
      have hq2 : (k : Int) + 7 * (j : Int) = q := by omega
      have hqb : q ≤ 8000000 := by omega
      have hmk : mkA k j = ⟨markT q, (q : Int) + 1, (q : Int) + 1 + 1, (q : Int) + 1 + 1 + 1, (q : Int) + 1 + 1 + 1 + 1, (q : Int) + 1 + 1 + 1 + 1 + 1, (q : Int) + 1 + 1 + 1 + 1 + 1 + 1⟩ := by unfold mkA; rw [hq]; congr 1 <;> omega
      rw [hmk] at hrg
      have HRG := Lib.hid (fun W (h : Below wr.heap.size wr W) => lay_rowx (rangeAt_below hrg h (rangeAt_lt hrg (by simp [Aw.cells]))))
      have HQ := Lib.hid hq
      have HBL := Lib.hid hbel
      rw [hq2]
      clear hq hq2 hrg hmk hbel
      obtain ⟨⟨d0, d1, d2, d3⟩, d4, d5, d6⟩ := HRG.out wr (Below.refl _ _)
      have hc0 : wr.cell? ⟨b, off + j * 7, none⟩ = some (.string (markT q)) := d0
      go_wp2_with fail
      refine wp_region_held (S := fun w' => w'.cell? ⟨b, off + j * 7, none⟩ = some (.string (markT q)) ∧ Below wr.heap.size wr w') (by kernel_rfl) ?_
      try (change wpAnyH _ _ _ _ _ _ _ _ (World.drew _))
      have hS0 := (show wr.drew.cell? ⟨b, off + j * 7, none⟩ = some (.string (markT q)) ∧ Below wr.heap.size wr wr.drew from ⟨hc0, Below.drew (Below.refl _ _)⟩)
      refine gTake 0 (v := ?_) rfl (by kernel_rfl) (by kernel_rfl) (by kernel_rfl) (fun _ _ _ h => h) (by kernel_rfl) ?_ hS0 ?_
      rotate_left
      · (intro W hW; clear hW; go_simp; try with_reducible rfl)
      refine gTake 1 (v := ?_) rfl (by kernel_rfl) (by kernel_rfl) (by kernel_rfl) (fun _ _ _ h => h) (by kernel_rfl) ?_ hS0 ?_
      rotate_left
      · (intro W hW; clear hW; go_simp; try with_reducible rfl)
      refine gTake 2 (v := ?_) rfl (by kernel_rfl) (by kernel_rfl) (by kernel_rfl) (fun _ _ _ h => h) (by kernel_rfl) ?_ hS0 ?_
      rotate_left
      · (intro W hW; clear hW; go_simp; try with_reducible rfl)
      refine gTake 3 (v := ?_) rfl (by kernel_rfl) (by kernel_rfl) (by kernel_rfl) (fun _ _ _ h => h) (by kernel_rfl) ?_ hS0 ?_
      rotate_left
      · (intro W hW; clear hW; go_simp; try with_reducible rfl)
      refine gTake 4 (v := ?_) rfl (by kernel_rfl) (by kernel_rfl) (by kernel_rfl) (fun _ _ _ h => h) (by kernel_rfl) ?_ hS0 ?_
      rotate_left
      · (intro W hW; have q0 := hW.1; clear hW; go_simp; try with_reducible rfl)
      refine gTake 5 (v := ?_) rfl (by kernel_rfl) (by kernel_rfl) (by kernel_rfl) (fun _ _ _ h => h) (by kernel_rfl) ?_ hS0 ?_
      rotate_left
      · (intro W hW; clear hW; go_simp; try with_reducible rfl)
      refine gOne 6 rfl (by kernel_rfl) (by kernel_rfl) (fun K hK => ?_)
      go_simp
      go_at_call 53
      (with_reducible refine (markText_x q _ (by omega)).mono ?_)
      rintro e w2 ⟨rfl, hd2⟩
      try go_simp
      have hS1 := (show w2.cell? ⟨b, off + j * 7, none⟩ = some (.string (markT q)) ∧ Below wr.heap.size wr w2 from ⟨(hd2.cell (World.block_lt_of_cell? _ _ hS0.1)).trans hS0.1, hS0.2.trans (hd2.mono hS0.2.size)⟩)
      refine hK _ _ hS1 ?_
      clear hK K
      refine gTake 7 (v := ?_) rfl (by kernel_rfl) (by kernel_rfl) (by kernel_rfl) (fun _ _ _ h => h) (by kernel_rfl) ?_ hS1 ?_
      rotate_left
      · (intro W hW; clear hW; go_simp; try with_reducible rfl)
      refine wpAnyH_done (by kernel_rfl) ?_ _
      go_simp
      have hb2 := hS1.2
      obtain ⟨⟨c0, c1, c2, c3⟩, c4, c5, c6⟩ := HRG.out _ hb2
      have HB2 := Lib.hid (HBL.out.trans (hb2.mono HBL.out.size))
      clear hb2 d0 d1 d2 d3 d4 d5 d6 hS0 hS1 hc0
      go_wp2
      go_roundw
      case rel => exact ⟨j + 1, by omega, by go_num, by have := HQ.out; congr 1; omega, HB2.out⟩
      case measure => simp [intOf]; omega
    · obtain rfl : j = n := by omega
      have HBL := Lib.hid hbel
      clear hbel
      go_wp2
      go_ret
      exact ⟨rfl, HBL.out⟩
theorem heldMine_x (J : Int) (A : Option Addr) (n k cap : Nat) (w : World) (hr : AwR w A (markA k n)) (hn : n ≤ 1048576) (hk : k ≤ 1000) :
    Calls Try.prog 28 #[.agg #[.int .i64 J, .slice A n cap], .int .i64 (k : Int)] w fun e w' => e = .returned (.int .i64 ((k : Int) + 7 * n)) ∧ Below w.heap.size w w' := by
  have HB0 := Lib.hid (below_box w (.cells #[.int .i64 J, .slice A n cap] 31))
  have HR := Lib.hid (hr.below HB0.out)
  clear hr
  go_enter Try.func28, Try.ntmps28
  go_wp2_with fail
  (with_reducible refine (heldAirwayS_x A n k cap _ HR.out hn hk).mono ?_)
  rintro e w1 ⟨rfl, hb⟩
  have HB := Lib.hid (HB0.out.trans (hb.mono HB0.out.size))
  have hm0 : ¬ ((k : Int) + 7 * (n : Int) < 0) := by omega
  clear hb
  go_wp2
  go_ret
  exact ⟨rfl, HB.out⟩
end Go.Proofs.Ytofpecgmnodflaa
