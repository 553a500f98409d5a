/-
  Contracts of chapter 11: ducts; the model's and the program's. Conditions: those that each theorem states.
-/
import Derived.Test.YtoojndohddellaaDoorDa
import Derived.Test.YtoojndohddellaaDoorRg
import Derived.Test.YtoojndohddellaaDoorSa
import Derived.Deep.LoopGhost
namespace Go.Proofs.YtoojndohddellaaDoor
open Go.RowKit
set_option linter.unusedVariables false
set_option linter.unusedSimpArgs false

theorem hide {p : Prop} (h : p) : Hid p := h
theorem unhide {p : Prop} (h : Hid p) : p := h
/-- A valid duct. -/
def duOk (s : ByteArray) (l j lo : Int) : Bool := isNm s && (inB l 1 2000 && (inB j 5 50 && inB lo 0 100000))
theorem duOk_bd {s : ByteArray} {l j lo : Int} (h : duOk s l j lo = true) : isNm s = true ∧ (1 ≤ l ∧ l ≤ 2000) ∧ (5 ≤ j ∧ j ≤ 50) ∧ (0 ≤ lo ∧ lo ≤ 100000) := by
  simp only [duOk, Bool.and_eq_true, inB_iff] at h
  exact ⟨h.1, h.2.1, h.2.2.1, h.2.2.2⟩
/-- The cells of a duct at the head of a block. -/
def DuAt (w : World) (b : Nat) (s : ByteArray) (l j lo : Int) : Prop :=
  w.cell? ⟨b, 0, none⟩ = some (.string s) ∧ w.cell? ⟨b, 1, none⟩ = some (.int .i64 l) ∧ w.cell? ⟨b, 2, none⟩ = some (.int .i64 j) ∧ w.cell? ⟨b, 3, none⟩ = some (.int .i64 lo)
theorem DuAt.lt {w : World} {b : Nat} {s : ByteArray} {l j lo : Int} (h : DuAt w b s l j lo) : b < w.heap.size := World.block_lt_of_cell? (a := ⟨b, 0, none⟩) _ h.1
theorem DuAt.below {B : Nat} {w w' : World} {b : Nat} {s : ByteArray} {l j lo : Int} (h : DuAt w b s l j lo) (hb : Below B w w') (hB : b < B) : DuAt w' b s l j lo :=
  ⟨(hb.cell (p := ⟨b, 0, none⟩) hB).trans h.1, (hb.cell (p := ⟨b, 1, none⟩) hB).trans h.2.1, (hb.cell (p := ⟨b, 2, none⟩) hB).trans h.2.2.1, (hb.cell (p := ⟨b, 3, none⟩) hB).trans h.2.2.2⟩
theorem duBoxed (s : ByteArray) (l j lo : Int) (w : World) : DuAt (w.alloc (.cells #[.string s, .int .i64 l, .int .i64 j, .int .i64 lo] 26)) w.heap.size s l j lo := by unfold DuAt; simp
/-- What is left behind one joint, and behind n of them. -/
def stp (lo q : Int) : Int := q - divR (q * lo) 1000000
def aft (lo : Int) : Nat → Int → Int
  | 0, q => q
  | n + 1, q => stp lo (aft lo n q)
theorem stp_bd {lo q : Int} (h1 : 0 ≤ lo) (h2 : lo ≤ 100000) (hq : 0 ≤ q) : 0 ≤ stp lo q ∧ stp lo q ≤ q := by
  unfold stp
  have hp : 0 ≤ q * lo := Int.mul_nonneg hq h1
  have hp2 : q * lo ≤ q * 100000 := Int.mul_le_mul_of_nonneg_left h2 hq
  rw [divR_pp _ _ hp (by omega)]
  generalize q * lo = x at *
  omega
theorem stp_mono {lo a b : Int} (h1 : 0 ≤ lo) (h2 : lo ≤ 100000) (ha : 0 ≤ a) (hab : a ≤ b) : stp lo a ≤ stp lo b := by
  unfold stp
  have hp : 0 ≤ a * lo := Int.mul_nonneg ha h1
  have hq : 0 ≤ b * lo := Int.mul_nonneg (by omega) h1
  have hd : (b - a) * lo ≤ (b - a) * 100000 := Int.mul_le_mul_of_nonneg_left h2 (by omega)
  rw [Int.sub_mul] at hd
  rw [divR_pp _ _ hp (by omega), divR_pp _ _ hq (by omega)]
  generalize a * lo = x at *
  generalize b * lo = y at *
  omega
theorem aft_bd {lo q : Int} (h1 : 0 ≤ lo) (h2 : lo ≤ 100000) (hq : 0 ≤ q) : ∀ n, 0 ≤ aft lo n q ∧ aft lo n q ≤ q
  | 0 => ⟨hq, Int.le_refl _⟩
  | n + 1 => by
    have h := aft_bd h1 h2 hq n
    have := stp_bd h1 h2 h.1
    show 0 ≤ stp lo (aft lo n q) ∧ stp lo (aft lo n q) ≤ q
    omega
theorem aft_mono {lo a b : Int} (h1 : 0 ≤ lo) (h2 : lo ≤ 100000) (ha : 0 ≤ a) (hab : a ≤ b) : ∀ n, aft lo n a ≤ aft lo n b
  | 0 => hab
  | n + 1 => stp_mono h1 h2 (aft_bd h1 h2 ha n).1 (aft_mono h1 h2 ha hab n)
theorem stp_mul {lo q : Int} (h1 : 0 ≤ lo) (h2 : lo ≤ 100000) (hq : 0 ≤ q) (hq2 : q ≤ 100000) : 0 ≤ q * lo ∧ q * lo ≤ 10000000000 := by
  have hp : 0 ≤ q * lo := Int.mul_nonneg hq h1
  have hp2 : q * lo ≤ q * 100000 := Int.mul_le_mul_of_nonneg_left h2 hq
  omega
/-- The joints of a duct. -/
def duJ (l j : Int) : Int := (l - 1) / j
theorem duJ_bd {l j : Int} (h1 : 1 ≤ l) (h2 : l ≤ 2000) (h3 : 5 ≤ j) : 0 ≤ duJ l j ∧ duJ l j ≤ 1999 := by
  unfold duJ
  refine ⟨Int.ediv_nonneg (by omega) (by omega), ?_⟩
  have : (l - 1) / j ≤ l - 1 := Int.ediv_le_self _ (by omega)
  omega
/-- The first number below n that fits; n if there is none. -/
def fsN (p : Nat → Bool) : Nat → Nat
  | 0 => 0
  | n + 1 => if fsN p n = n then (if p n then n else n + 1) else fsN p n
theorem fsN_spec (p : Nat → Bool) (n : Nat) : fsN p n ≤ n ∧ (∀ t, t < fsN p n → p t = false) ∧ (fsN p n < n → p (fsN p n) = true) := by
  induction n with
  | zero => simp [fsN]
  | succ n ih =>
    obtain ⟨a, b, c⟩ := ih
    rw [fsN]
    by_cases e : fsN p n = n
    · rw [if_pos e]
      by_cases h : p n = true
      · rw [if_pos h]; exact ⟨by omega, by rwa [e] at b, fun _ => h⟩
      · rw [if_neg h]
        refine ⟨Nat.le_refl _, fun t ht => ?_, fun h => absurd h (by omega)⟩
        rcases Nat.lt_or_ge t n with q | q
        · exact b t (by omega)
        · obtain rfl : t = n := by omega
          simpa using h
    · rw [if_neg e]; exact ⟨by omega, b, fun _ => c (by omega)⟩
/-- The least flow with which enough arrives. -/
def fnM (lo : Int) (n : Nat) (need : Int) : Nat := fsN (fun k => decide (need ≤ aft lo n (k : Int))) 100001
theorem fnM_spec {lo need : Int} {n : Nat} (h1 : 0 ≤ lo) (h2 : lo ≤ 100000) : fnM lo n need ≤ 100001 ∧ (∀ t : Nat, t < fnM lo n need → aft lo n (t : Int) < need) ∧ (∀ t : Nat, fnM lo n need ≤ t → t < 100001 → need ≤ aft lo n (t : Int)) := by
  obtain ⟨a, b, c⟩ := fsN_spec (fun k => decide (need ≤ aft lo n (k : Int))) 100001
  refine ⟨a, fun t ht => by have := b t ht; simpa using this, fun t h h3 => ?_⟩
  have h4 := c (Nat.lt_of_le_of_lt h h3)
  have h5 : need ≤ aft lo n (fnM lo n need : Nat) := of_decide_eq_true h4
  exact Int.le_trans h5 (aft_mono h1 h2 (by omega) (by exact Int.ofNat_le.2 h) n)
/-- The length of the longest duct. -/
def ldG (lo j need : Int) : Nat → Int → Int → Int
  | 0, _, l => l
  | n + 1, q, l => if l < 2000 ∧ need ≤ q then ldG lo j need n (stp lo q) (if l + j ≤ 2000 then l + j else 2000) else l
theorem ldG_end {lo j need q l : Int} (n : Nat) (h : ¬ (l < 2000 ∧ need ≤ q)) : ldG lo j need n q l = l := by
  cases n with
  | zero => rfl
  | succ n => rw [ldG, if_neg h]
theorem ldG_on {lo j need q l : Int} {n : Nat} (h : l < 2000 ∧ need ≤ q) (hn : (2000 - l).toNat ≤ n) (hj : 1 ≤ j) : ∃ m, ldG lo j need n q l = ldG lo j need m (stp lo q) (if l + j ≤ 2000 then l + j else 2000) ∧ (2000 - (if l + j ≤ 2000 then l + j else 2000)).toNat ≤ m := by
  cases n with
  | zero => omega
  | succ n =>
    refine ⟨n, by rw [ldG, if_pos h], ?_⟩
    split <;> omega
theorem ldG_le {lo j need : Int} (hj : 1 ≤ j) : ∀ (n : Nat) (q l : Int), l ≤ 2000 → l ≤ ldG lo j need n q l
  | 0, _, _, _ => Int.le_refl _
  | n + 1, q, l, hl => by
    rw [ldG]
    split
    · by_cases h : l + j ≤ 2000
      · rw [if_pos h]
        have := ldG_le (lo := lo) (need := need) hj n (stp lo q) (l + j) h
        omega
      · rw [if_neg h]
        have := ldG_le (lo := lo) (need := need) hj n (stp lo q) 2000 (by omega)
        omega
    · exact Int.le_refl _
def ldL (lo j need q : Int) : Int := ldG lo j need 2000 q 0
theorem ldL_pos {lo j need q : Int} (hj : 5 ≤ j) (h : need ≤ q) : 5 ≤ ldL lo j need q := by
  unfold ldL
  rw [ldG, if_pos ⟨by omega, h⟩]
  by_cases h2 : 0 + j ≤ 2000
  · rw [if_pos h2]
    have := ldG_le (lo := lo) (need := need) (show 1 ≤ j by omega) 1999 (stp lo q) (0 + j) h2
    omega
  · rw [if_neg h2]
    have := ldG_le (lo := lo) (need := need) (show 1 ≤ j by omega) 1999 (stp lo q) 2000 (by omega)
    omega
/-- What the functions return. -/
def joA (s : ByteArray) (l j lo : Int) : Int := if duOk s l j lo then duJ l j else 0
def joB (s : ByteArray) (l j lo : Int) : Int := if duOk s l j lo then 0 else 1
def faA (s : ByteArray) (l j lo : Int) (q k : Int) : Int := if duOk s l j lo && (inB q 0 100000 && inB k 0 (duJ l j)) then aft lo k.toNat q else 0
def faB (s : ByteArray) (l j lo : Int) (q k : Int) : Int := if duOk s l j lo then (if inB q 0 100000 && inB k 0 (duJ l j) then 0 else 2) else 1
def feA (s : ByteArray) (l j lo : Int) (q : Int) : Int := if duOk s l j lo && inB q 0 100000 then aft lo (duJ l j).toNat q else 0
def feB (s : ByteArray) (l j lo : Int) (q : Int) : Int := if duOk s l j lo then (if inB q 0 100000 then 0 else 2) else 1
def fnA (s : ByteArray) (l j lo : Int) (q : Int) : Int := if duOk s l j lo && inB q 0 100000 then (if fnM lo (duJ l j).toNat q < 100001 then (fnM lo (duJ l j).toNat q : Int) else 0) else 0
def fnB (s : ByteArray) (l j lo : Int) (q : Int) : Int := if duOk s l j lo then (if inB q 0 100000 then (if fnM lo (duJ l j).toNat q < 100001 then 0 else 3) else 2) else 1
def ldA (s : ByteArray) (l j lo : Int) (q need : Int) : Int := if duOk s l j lo && (inB q 0 100000 && inB need 0 100000) then (if need ≤ q then ldL lo j need q else 0) else 0
def ldB (s : ByteArray) (l j lo : Int) (q need : Int) : Int := if duOk s l j lo then (if inB q 0 100000 && inB need 0 100000 then (if need ≤ q then 0 else 3) else 2) else 1
set_option maxHeartbeats 1000000 in
theorem l11Ok_same (b : Nat) (s : ByteArray) (l j lo : Int) (w : World) (hs : s.size ≤ maxLen) (hc : DuAt w b s l j lo) :
    Calls Tryd.prog 12 #[.pointer (some ⟨b, 0, none⟩)] w fun e w' => e = .returned (.bool (duOk s l j lo)) ∧ w = w' := by
  obtain ⟨c0, c1, c2, c3⟩ := hc
  cases hn : isNm s
  · skip
    have HE := Lib.hid (show duOk s l j lo = false by simp [duOk, hn])
    go_enter Tryd.func12, Tryd.ntmps12
    go_wp2_with (first
          | (go_at_call 20; (with_reducible refine (l01Name_any s _ hs).mono ?_); rintro e w' ⟨rfl, rfl⟩)
          | (go_at_call 21; (with_reducible refine (l00In_any _ _ _ _).mono ?_); rintro e w' ⟨rfl, rfl⟩))
    go_ret
    exact ⟨ret_bool (by first | exact HE.out.symm | (simp only [hn]; exact HE.out.symm)), rfl⟩
  · cases j1 : inB l 1 2000
    · skip
      have HE := Lib.hid (show duOk s l j lo = false by simp [duOk, j1])
      go_enter Tryd.func12, Tryd.ntmps12
      go_wp2_with (first
            | (go_at_call 20; (with_reducible refine (l01Name_any s _ hs).mono ?_); rintro e w' ⟨rfl, rfl⟩)
            | (go_at_call 21; (with_reducible refine (l00In_any _ _ _ _).mono ?_); rintro e w' ⟨rfl, rfl⟩))
      go_ret
      exact ⟨ret_bool (by first | exact HE.out.symm | (simp only [j1]; exact HE.out.symm)), rfl⟩
    · cases j2 : inB j 5 50
      · skip
        have HE := Lib.hid (show duOk s l j lo = false by simp [duOk, j2])
        go_enter Tryd.func12, Tryd.ntmps12
        go_wp2_with (first
              | (go_at_call 20; (with_reducible refine (l01Name_any s _ hs).mono ?_); rintro e w' ⟨rfl, rfl⟩)
              | (go_at_call 21; (with_reducible refine (l00In_any _ _ _ _).mono ?_); rintro e w' ⟨rfl, rfl⟩))
        go_ret
        exact ⟨ret_bool (by first | exact HE.out.symm | (simp only [j2]; exact HE.out.symm)), rfl⟩
      · cases j3 : inB lo 0 100000
        · skip
          have HE := Lib.hid (show duOk s l j lo = false by simp [duOk, j3])
          go_enter Tryd.func12, Tryd.ntmps12
          go_wp2_with (first
                | (go_at_call 20; (with_reducible refine (l01Name_any s _ hs).mono ?_); rintro e w' ⟨rfl, rfl⟩)
                | (go_at_call 21; (with_reducible refine (l00In_any _ _ _ _).mono ?_); rintro e w' ⟨rfl, rfl⟩))
          go_ret
          exact ⟨ret_bool (by first | exact HE.out.symm | (simp only [j3]; exact HE.out.symm)), rfl⟩
        · skip
          have HE := Lib.hid (show duOk s l j lo = true by simp [duOk, hn, j1, j2, j3])
          go_enter Tryd.func12, Tryd.ntmps12
          go_wp2_with (first
                | (go_at_call 20; (with_reducible refine (l01Name_any s _ hs).mono ?_); rintro e w' ⟨rfl, rfl⟩)
                | (go_at_call 21; (with_reducible refine (l00In_any _ _ _ _).mono ?_); rintro e w' ⟨rfl, rfl⟩))
          go_ret
          exact ⟨ret_bool (by first | exact HE.out.symm | (simp only [hn, j1, j2, j3]; exact HE.out.symm)), rfl⟩
theorem l11Ok_below (b : Nat) (s : ByteArray) (l j lo : Int) (w : World) (hs : s.size ≤ maxLen) (hc : DuAt w b s l j lo) :
    Calls Tryd.prog 12 #[.pointer (some ⟨b, 0, none⟩)] w fun e w' => e = .returned (.bool (duOk s l j lo)) ∧ Below w.heap.size w w' :=
  (l11Ok_same b s l j lo w hs hc).mono fun _ _ ⟨a, h⟩ => ⟨a, h ▸ Below.refl _ _⟩
set_option maxHeartbeats 1000000 in
theorem iValidDuct_any (s : ByteArray) (l j lo : Int) (w : World) (hs : s.size ≤ maxLen) :
    Calls Tryd.prog 14 #[.agg #[.string s, .int .i64 l, .int .i64 j, .int .i64 lo]] w fun e w' => e = .returned (.bool (duOk s l j lo)) ∧ Below w.heap.size w w' := by
  cases hn : isNm s
  · skip
    have HE := Lib.hid (show duOk s l j lo = false by simp [duOk, hn])
    go_enter Tryd.func14, Tryd.ntmps14
    go_wp2_with fail
    (with_reducible refine (iIsName_any s _ hs).mono ?_)
    rintro e w1 ⟨rfl, hd⟩
    have HB1 := Lib.hid (show Below w.heap.size w w1 from (below_box _ _).trans (hd.mono (by simp)))
    have hz : w.heap.size < w1.heap.size := Nat.lt_of_lt_of_le (by simp) hd.size
    have k1 : w1.cell? ⟨w.heap.size, 1, none⟩ = some (.int .i64 l) := (hd.cell (by simp)).trans (by simp)
    have k2 : w1.cell? ⟨w.heap.size, 2, none⟩ = some (.int .i64 j) := (hd.cell (by simp)).trans (by simp)
    have k3 : w1.cell? ⟨w.heap.size, 3, none⟩ = some (.int .i64 lo) := (hd.cell (by simp)).trans (by simp)
    have hn1 : ¬ (w.heap.size = w1.heap.size) := by omega
    have hn2 : ¬ (w.heap.size = w1.heap.size + 1) := by omega
    have hn3 : ¬ (w.heap.size = w1.heap.size + 1 + 1) := by omega
    clear hd
    go_wp2
    go_ret
    exact ⟨ret_bool (by first | exact HE.out.symm | (simp only [hn]; exact HE.out.symm)), HB1.out⟩
  · cases j1 : inB l 1 2000
    · skip
      have HE := Lib.hid (show duOk s l j lo = false by simp [duOk, j1])
      go_enter Tryd.func14, Tryd.ntmps14
      go_wp2_with fail
      (with_reducible refine (iIsName_any s _ hs).mono ?_)
      rintro e w1 ⟨rfl, hd⟩
      have HB1 := Lib.hid (show Below w.heap.size w w1 from (below_box _ _).trans (hd.mono (by simp)))
      have hz : w.heap.size < w1.heap.size := Nat.lt_of_lt_of_le (by simp) hd.size
      have k1 : w1.cell? ⟨w.heap.size, 1, none⟩ = some (.int .i64 l) := (hd.cell (by simp)).trans (by simp)
      have k2 : w1.cell? ⟨w.heap.size, 2, none⟩ = some (.int .i64 j) := (hd.cell (by simp)).trans (by simp)
      have k3 : w1.cell? ⟨w.heap.size, 3, none⟩ = some (.int .i64 lo) := (hd.cell (by simp)).trans (by simp)
      have hn1 : ¬ (w.heap.size = w1.heap.size) := by omega
      have hn2 : ¬ (w.heap.size = w1.heap.size + 1) := by omega
      have hn3 : ¬ (w.heap.size = w1.heap.size + 1 + 1) := by omega
      clear hd
      go_wp2_with fail
      (with_reducible refine (within64_one _ _ _ _ _ _ (by simp)).mono ?_)
      rintro e w' ⟨rfl, rfl⟩
      go_wp2
      go_ret
      exact ⟨ret_bool (by first | exact HE.out.symm | (simp only [j1]; exact HE.out.symm)), (HB1.out.alloc (by first | exact HB1.out.size | (simp; have := HB1.out.size; omega)) (.cells #[.int .i64 l] 2))⟩
    · cases j2 : inB j 5 50
      · skip
        have HE := Lib.hid (show duOk s l j lo = false by simp [duOk, j2])
        go_enter Tryd.func14, Tryd.ntmps14
        go_wp2_with fail
        (with_reducible refine (iIsName_any s _ hs).mono ?_)
        rintro e w1 ⟨rfl, hd⟩
        have HB1 := Lib.hid (show Below w.heap.size w w1 from (below_box _ _).trans (hd.mono (by simp)))
        have hz : w.heap.size < w1.heap.size := Nat.lt_of_lt_of_le (by simp) hd.size
        have k1 : w1.cell? ⟨w.heap.size, 1, none⟩ = some (.int .i64 l) := (hd.cell (by simp)).trans (by simp)
        have k2 : w1.cell? ⟨w.heap.size, 2, none⟩ = some (.int .i64 j) := (hd.cell (by simp)).trans (by simp)
        have k3 : w1.cell? ⟨w.heap.size, 3, none⟩ = some (.int .i64 lo) := (hd.cell (by simp)).trans (by simp)
        have hn1 : ¬ (w.heap.size = w1.heap.size) := by omega
        have hn2 : ¬ (w.heap.size = w1.heap.size + 1) := by omega
        have hn3 : ¬ (w.heap.size = w1.heap.size + 1 + 1) := by omega
        clear hd
        go_wp2_with fail
        (with_reducible refine (within64_one _ _ _ _ _ _ (by simp)).mono ?_)
        rintro e w' ⟨rfl, rfl⟩
        go_wp2_with fail
        (with_reducible refine (within64_one _ _ _ _ _ _ (by simp)).mono ?_)
        rintro e w' ⟨rfl, rfl⟩
        go_wp2
        go_ret
        exact ⟨ret_bool (by first | exact HE.out.symm | (simp only [j2]; exact HE.out.symm)), ((HB1.out.alloc (by first | exact HB1.out.size | (simp; have := HB1.out.size; omega)) (.cells #[.int .i64 l] 2)).alloc (by first | exact HB1.out.size | (simp; have := HB1.out.size; omega)) (.cells #[.int .i64 j] 2))⟩
      · cases j3 : inB lo 0 100000
        · skip
          have HE := Lib.hid (show duOk s l j lo = false by simp [duOk, j3])
          go_enter Tryd.func14, Tryd.ntmps14
          go_wp2_with fail
          (with_reducible refine (iIsName_any s _ hs).mono ?_)
          rintro e w1 ⟨rfl, hd⟩
          have HB1 := Lib.hid (show Below w.heap.size w w1 from (below_box _ _).trans (hd.mono (by simp)))
          have hz : w.heap.size < w1.heap.size := Nat.lt_of_lt_of_le (by simp) hd.size
          have k1 : w1.cell? ⟨w.heap.size, 1, none⟩ = some (.int .i64 l) := (hd.cell (by simp)).trans (by simp)
          have k2 : w1.cell? ⟨w.heap.size, 2, none⟩ = some (.int .i64 j) := (hd.cell (by simp)).trans (by simp)
          have k3 : w1.cell? ⟨w.heap.size, 3, none⟩ = some (.int .i64 lo) := (hd.cell (by simp)).trans (by simp)
          have hn1 : ¬ (w.heap.size = w1.heap.size) := by omega
          have hn2 : ¬ (w.heap.size = w1.heap.size + 1) := by omega
          have hn3 : ¬ (w.heap.size = w1.heap.size + 1 + 1) := by omega
          clear hd
          go_wp2_with fail
          (with_reducible refine (within64_one _ _ _ _ _ _ (by simp)).mono ?_)
          rintro e w' ⟨rfl, rfl⟩
          go_wp2_with fail
          (with_reducible refine (within64_one _ _ _ _ _ _ (by simp)).mono ?_)
          rintro e w' ⟨rfl, rfl⟩
          go_wp2_with fail
          (with_reducible refine (within64_one _ _ _ _ _ _ (by simp)).mono ?_)
          rintro e w' ⟨rfl, rfl⟩
          go_wp2
          go_ret
          exact ⟨ret_bool (by first | exact HE.out.symm | (simp only [j3]; exact HE.out.symm)), (((HB1.out.alloc (by first | exact HB1.out.size | (simp; have := HB1.out.size; omega)) (.cells #[.int .i64 l] 2)).alloc (by first | exact HB1.out.size | (simp; have := HB1.out.size; omega)) (.cells #[.int .i64 j] 2)).alloc (by first | exact HB1.out.size | (simp; have := HB1.out.size; omega)) (.cells #[.int .i64 lo] 2))⟩
        · skip
          have HE := Lib.hid (show duOk s l j lo = true by simp [duOk, hn, j1, j2, j3])
          go_enter Tryd.func14, Tryd.ntmps14
          go_wp2_with fail
          (with_reducible refine (iIsName_any s _ hs).mono ?_)
          rintro e w1 ⟨rfl, hd⟩
          have HB1 := Lib.hid (show Below w.heap.size w w1 from (below_box _ _).trans (hd.mono (by simp)))
          have hz : w.heap.size < w1.heap.size := Nat.lt_of_lt_of_le (by simp) hd.size
          have k1 : w1.cell? ⟨w.heap.size, 1, none⟩ = some (.int .i64 l) := (hd.cell (by simp)).trans (by simp)
          have k2 : w1.cell? ⟨w.heap.size, 2, none⟩ = some (.int .i64 j) := (hd.cell (by simp)).trans (by simp)
          have k3 : w1.cell? ⟨w.heap.size, 3, none⟩ = some (.int .i64 lo) := (hd.cell (by simp)).trans (by simp)
          have hn1 : ¬ (w.heap.size = w1.heap.size) := by omega
          have hn2 : ¬ (w.heap.size = w1.heap.size + 1) := by omega
          have hn3 : ¬ (w.heap.size = w1.heap.size + 1 + 1) := by omega
          clear hd
          go_wp2_with fail
          (with_reducible refine (within64_one _ _ _ _ _ _ (by simp)).mono ?_)
          rintro e w' ⟨rfl, rfl⟩
          go_wp2_with fail
          (with_reducible refine (within64_one _ _ _ _ _ _ (by simp)).mono ?_)
          rintro e w' ⟨rfl, rfl⟩
          go_wp2_with fail
          (with_reducible refine (within64_one _ _ _ _ _ _ (by simp)).mono ?_)
          rintro e w' ⟨rfl, rfl⟩
          go_wp2
          go_ret
          exact ⟨ret_bool (by first | exact HE.out.symm | (simp only [hn, j1, j2, j3]; exact HE.out.symm)), (((HB1.out.alloc (by first | exact HB1.out.size | (simp; have := HB1.out.size; omega)) (.cells #[.int .i64 l] 2)).alloc (by first | exact HB1.out.size | (simp; have := HB1.out.size; omega)) (.cells #[.int .i64 j] 2)).alloc (by first | exact HB1.out.size | (simp; have := HB1.out.size; omega)) (.cells #[.int .i64 lo] 2))⟩
theorem duJ_tdiv {l j : Int} (h1 : 1 ≤ l ∧ l ≤ 2000) (h2 : 5 ≤ j ∧ j ≤ 50) : duJ l j = (l - 1).tdiv j := (Int.tdiv_eq_ediv_of_nonneg (by omega)).symm
theorem allR_pair (lo hi x y : Int) : allR lo hi [x, y] = (inB x lo hi && inB y lo hi) := by
  rw [Bool.eq_iff_iff, allR_iff, Bool.and_eq_true, inB_iff, inB_iff]
  simp
theorem within64_oneB (lo hi x : Int) (W : World) (T : TypeId) (b : Nat) (hb : b = W.heap.size) :
    Calls Tryd.prog 24 #[.int .i64 lo, .int .i64 hi, .slice (some ⟨b, 0, none⟩) 1 1] (W.alloc (.cells #[.int .i64 x] T)) fun e w' => e = .returned (.bool (inB x lo hi)) ∧ Below W.heap.size W w' :=
  (within64_one lo hi x W T b hb).mono fun _ _ ⟨a, h⟩ => ⟨a, h ▸ below_box _ _⟩
end Go.Proofs.YtoojndohddellaaDoor
