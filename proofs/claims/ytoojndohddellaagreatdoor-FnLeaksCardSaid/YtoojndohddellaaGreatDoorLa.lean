/-
  Contracts of chapter 11: ducts; the model's and the program's. Conditions: those that each theorem states.
-/
import Derived.Test.YtoojndohddellaaGreatDoorDa
import Derived.Test.YtoojndohddellaaGreatDoorRg
import Derived.Test.YtoojndohddellaaGreatDoorSa
import Derived.Deep.LoopGhost
namespace Go.Proofs.YtoojndohddellaaGreatDoor
open Go.RowKit
set_option linter.unusedVariables false
set_option linter.unusedSimpArgs false

theorem hide {p : Prop} (h : p) : Hid p := h
theorem unhide {p : Prop} (h : Hid p) : p := h
/-- A valid duct. -/
def duOk (s : ByteArray) (l j lo : Int) : Bool := isNm s && (inB l 1 2000 && (inB j 5 50 && inB lo 0 100000))
theorem duOk_bd {s : ByteArray} {l j lo : Int} (h : duOk s l j lo = true) : isNm s = true ∧ (1 ≤ l ∧ l ≤ 2000) ∧ (5 ≤ j ∧ j ≤ 50) ∧ (0 ≤ lo ∧ lo ≤ 100000) := by
  simp only [duOk, Bool.and_eq_true, inB_iff] at h
  exact ⟨h.1, h.2.1, h.2.2.1, h.2.2.2⟩
/-- The cells of a duct at the head of a block. -/
def DuAt (w : World) (b : Nat) (s : ByteArray) (l j lo : Int) : Prop :=
  w.cell? ⟨b, 0, none⟩ = some (.string s) ∧ w.cell? ⟨b, 1, none⟩ = some (.int .i64 l) ∧ w.cell? ⟨b, 2, none⟩ = some (.int .i64 j) ∧ w.cell? ⟨b, 3, none⟩ = some (.int .i64 lo)
theorem DuAt.lt {w : World} {b : Nat} {s : ByteArray} {l j lo : Int} (h : DuAt w b s l j lo) : b < w.heap.size := World.block_lt_of_cell? (a := ⟨b, 0, none⟩) _ h.1
theorem DuAt.below {B : Nat} {w w' : World} {b : Nat} {s : ByteArray} {l j lo : Int} (h : DuAt w b s l j lo) (hb : Below B w w') (hB : b < B) : DuAt w' b s l j lo :=
  ⟨(hb.cell (p := ⟨b, 0, none⟩) hB).trans h.1, (hb.cell (p := ⟨b, 1, none⟩) hB).trans h.2.1, (hb.cell (p := ⟨b, 2, none⟩) hB).trans h.2.2.1, (hb.cell (p := ⟨b, 3, none⟩) hB).trans h.2.2.2⟩
theorem duBoxed (s : ByteArray) (l j lo : Int) (w : World) : DuAt (w.alloc (.cells #[.string s, .int .i64 l, .int .i64 j, .int .i64 lo] 25)) w.heap.size s l j lo := by unfold DuAt; simp
/-- What is left behind one joint, and behind n of them. -/
def stp (lo q : Int) : Int := q - divR (q * lo) 1000000
def aft (lo : Int) : Nat → Int → Int
  | 0, q => q
  | n + 1, q => stp lo (aft lo n q)
theorem stp_bd {lo q : Int} (h1 : 0 ≤ lo) (h2 : lo ≤ 100000) (hq : 0 ≤ q) : 0 ≤ stp lo q ∧ stp lo q ≤ q := by
  unfold stp
  have hp : 0 ≤ q * lo := Int.mul_nonneg hq h1
  have hp2 : q * lo ≤ q * 100000 := Int.mul_le_mul_of_nonneg_left h2 hq
  rw [divR_pp _ _ hp (by omega)]
  generalize q * lo = x at *
  omega
theorem stp_mono {lo a b : Int} (h1 : 0 ≤ lo) (h2 : lo ≤ 100000) (ha : 0 ≤ a) (hab : a ≤ b) : stp lo a ≤ stp lo b := by
  unfold stp
  have hp : 0 ≤ a * lo := Int.mul_nonneg ha h1
  have hq : 0 ≤ b * lo := Int.mul_nonneg (by omega) h1
  have hd : (b - a) * lo ≤ (b - a) * 100000 := Int.mul_le_mul_of_nonneg_left h2 (by omega)
  rw [Int.sub_mul] at hd
  rw [divR_pp _ _ hp (by omega), divR_pp _ _ hq (by omega)]
  generalize a * lo = x at *
  generalize b * lo = y at *
  omega
theorem aft_bd {lo q : Int} (h1 : 0 ≤ lo) (h2 : lo ≤ 100000) (hq : 0 ≤ q) : ∀ n, 0 ≤ aft lo n q ∧ aft lo n q ≤ q
  | 0 => ⟨hq, Int.le_refl _⟩
  | n + 1 => by
    have h := aft_bd h1 h2 hq n
    have := stp_bd h1 h2 h.1
    show 0 ≤ stp lo (aft lo n q) ∧ stp lo (aft lo n q) ≤ q
    omega
theorem aft_mono {lo a b : Int} (h1 : 0 ≤ lo) (h2 : lo ≤ 100000) (ha : 0 ≤ a) (hab : a ≤ b) : ∀ n, aft lo n a ≤ aft lo n b
  | 0 => hab
  | n + 1 => stp_mono h1 h2 (aft_bd h1 h2 ha n).1 (aft_mono h1 h2 ha hab n)
theorem stp_mul {lo q : Int} (h1 : 0 ≤ lo) (h2 : lo ≤ 100000) (hq : 0 ≤ q) (hq2 : q ≤ 100000) : 0 ≤ q * lo ∧ q * lo ≤ 10000000000 := by
  have hp : 0 ≤ q * lo := Int.mul_nonneg hq h1
  have hp2 : q * lo ≤ q * 100000 := Int.mul_le_mul_of_nonneg_left h2 hq
  omega
/-- The joints of a duct. -/
def duJ (l j : Int) : Int := (l - 1) / j
theorem duJ_bd {l j : Int} (h1 : 1 ≤ l) (h2 : l ≤ 2000) (h3 : 5 ≤ j) : 0 ≤ duJ l j ∧ duJ l j ≤ 1999 := by
  unfold duJ
  refine ⟨Int.ediv_nonneg (by omega) (by omega), ?_⟩
  have : (l - 1) / j ≤ l - 1 := Int.ediv_le_self _ (by omega)
  omega
/-- The first number below n that fits; n if there is none. -/
def fsN (p : Nat → Bool) : Nat → Nat
  | 0 => 0
  | n + 1 => if fsN p n = n then (if p n then n else n + 1) else fsN p n
theorem fsN_spec (p : Nat → Bool) (n : Nat) : fsN p n ≤ n ∧ (∀ t, t < fsN p n → p t = false) ∧ (fsN p n < n → p (fsN p n) = true) := by
  induction n with
  | zero => simp [fsN]
  | succ n ih =>
    obtain ⟨a, b, c⟩ := ih
    rw [fsN]
    by_cases e : fsN p n = n
    · rw [if_pos e]
      by_cases h : p n = true
      · rw [if_pos h]; exact ⟨by omega, by rwa [e] at b, fun _ => h⟩
      · rw [if_neg h]
        refine ⟨Nat.le_refl _, fun t ht => ?_, fun h => absurd h (by omega)⟩
        rcases Nat.lt_or_ge t n with q | q
        · exact b t (by omega)
        · obtain rfl : t = n := by omega
          simpa using h
    · rw [if_neg e]; exact ⟨by omega, b, fun _ => c (by omega)⟩
/-- The least flow with which enough arrives. -/
def fnM (lo : Int) (n : Nat) (need : Int) : Nat := fsN (fun k => decide (need ≤ aft lo n (k : Int))) 100001
theorem fnM_spec {lo need : Int} {n : Nat} (h1 : 0 ≤ lo) (h2 : lo ≤ 100000) : fnM lo n need ≤ 100001 ∧ (∀ t : Nat, t < fnM lo n need → aft lo n (t : Int) < need) ∧ (∀ t : Nat, fnM lo n need ≤ t → t < 100001 → need ≤ aft lo n (t : Int)) := by
  obtain ⟨a, b, c⟩ := fsN_spec (fun k => decide (need ≤ aft lo n (k : Int))) 100001
  refine ⟨a, fun t ht => by have := b t ht; simpa using this, fun t h h3 => ?_⟩
  have h4 := c (Nat.lt_of_le_of_lt h h3)
  have h5 : need ≤ aft lo n (fnM lo n need : Nat) := of_decide_eq_true h4
  exact Int.le_trans h5 (aft_mono h1 h2 (by omega) (by exact Int.ofNat_le.2 h) n)
/-- The length of the longest duct. -/
def ldG (lo j need : Int) : Nat → Int → Int → Int
  | 0, _, l => l
  | n + 1, q, l => if l < 2000 ∧ need ≤ q then ldG lo j need n (stp lo q) (if l + j ≤ 2000 then l + j else 2000) else l
theorem ldG_end {lo j need q l : Int} (n : Nat) (h : ¬ (l < 2000 ∧ need ≤ q)) : ldG lo j need n q l = l := by
  cases n with
  | zero => rfl
  | succ n => rw [ldG, if_neg h]
theorem ldG_on {lo j need q l : Int} {n : Nat} (h : l < 2000 ∧ need ≤ q) (hn : (2000 - l).toNat ≤ n) (hj : 1 ≤ j) : ∃ m, ldG lo j need n q l = ldG lo j need m (stp lo q) (if l + j ≤ 2000 then l + j else 2000) ∧ (2000 - (if l + j ≤ 2000 then l + j else 2000)).toNat ≤ m := by
  cases n with
  | zero => omega
  | succ n =>
    refine ⟨n, by rw [ldG, if_pos h], ?_⟩
    split <;> omega
theorem ldG_le {lo j need : Int} (hj : 1 ≤ j) : ∀ (n : Nat) (q l : Int), l ≤ 2000 → l ≤ ldG lo j need n q l
  | 0, _, _, _ => Int.le_refl _
  | n + 1, q, l, hl => by
    rw [ldG]
    split
    · by_cases h : l + j ≤ 2000
      · rw [if_pos h]
        have := ldG_le (lo := lo) (need := need) hj n (stp lo q) (l + j) h
        omega
      · rw [if_neg h]
        have := ldG_le (lo := lo) (need := need) hj n (stp lo q) 2000 (by omega)
        omega
    · exact Int.le_refl _
def ldL (lo j need q : Int) : Int := ldG lo j need 2000 q 0
theorem ldL_pos {lo j need q : Int} (hj : 5 ≤ j) (h : need ≤ q) : 5 ≤ ldL lo j need q := by
  unfold ldL
  rw [ldG, if_pos ⟨by omega, h⟩]
  by_cases h2 : 0 + j ≤ 2000
  · rw [if_pos h2]
    have := ldG_le (lo := lo) (need := need) (show 1 ≤ j by omega) 1999 (stp lo q) (0 + j) h2
    omega
  · rw [if_neg h2]
    have := ldG_le (lo := lo) (need := need) (show 1 ≤ j by omega) 1999 (stp lo q) 2000 (by omega)
    omega
/-- What the functions return. -/
def joA (s : ByteArray) (l j lo : Int) : Int := if duOk s l j lo then duJ l j else 0
def joB (s : ByteArray) (l j lo : Int) : Int := if duOk s l j lo then 0 else 1
def faA (s : ByteArray) (l j lo : Int) (q k : Int) : Int := if duOk s l j lo && (inB q 0 100000 && inB k 0 (duJ l j)) then aft lo k.toNat q else 0
def faB (s : ByteArray) (l j lo : Int) (q k : Int) : Int := if duOk s l j lo then (if inB q 0 100000 && inB k 0 (duJ l j) then 0 else 2) else 1
def feA (s : ByteArray) (l j lo : Int) (q : Int) : Int := if duOk s l j lo && inB q 0 100000 then aft lo (duJ l j).toNat q else 0
def feB (s : ByteArray) (l j lo : Int) (q : Int) : Int := if duOk s l j lo then (if inB q 0 100000 then 0 else 2) else 1
def fnA (s : ByteArray) (l j lo : Int) (q : Int) : Int := if duOk s l j lo && inB q 0 100000 then (if fnM lo (duJ l j).toNat q < 100001 then (fnM lo (duJ l j).toNat q : Int) else 0) else 0
def fnB (s : ByteArray) (l j lo : Int) (q : Int) : Int := if duOk s l j lo then (if inB q 0 100000 then (if fnM lo (duJ l j).toNat q < 100001 then 0 else 3) else 2) else 1
def ldA (s : ByteArray) (l j lo : Int) (q need : Int) : Int := if duOk s l j lo && (inB q 0 100000 && inB need 0 100000) then (if need ≤ q then ldL lo j need q else 0) else 0
def ldB (s : ByteArray) (l j lo : Int) (q need : Int) : Int := if duOk s l j lo then (if inB q 0 100000 && inB need 0 100000 then (if need ≤ q then 0 else 3) else 2) else 1
set_option maxHeartbeats 1000000 in
theorem l11Ok_same (b : Nat) (s : ByteArray) (l j lo : Int) (w : World) (hs : s.size ≤ maxLen) (hc : DuAt w b s l j lo) :
    Calls Tryz.prog 32 #[.pointer (some ⟨b, 0, none⟩)] w fun e w' => e = .returned (.bool (duOk s l j lo)) ∧ w = w' := by
  obtain ⟨c0, c1, c2, c3⟩ := hc
  cases hn : isNm s
  · skip
    have HE := Lib.hid (show duOk s l j lo = false by simp [duOk, hn])
    go_enter Tryz.func32, Tryz.ntmps32
    go_wp2_with (first
          | (go_at_call 50; (with_reducible refine (l01Name_any s _ hs).mono ?_); rintro e w' ⟨rfl, rfl⟩)
          | (go_at_call 51; (with_reducible refine (l00In_any _ _ _ _).mono ?_); rintro e w' ⟨rfl, rfl⟩))
    go_ret
    exact ⟨ret_bool (by first | exact HE.out.symm | (simp only [hn]; exact HE.out.symm)), rfl⟩
  · cases j1 : inB l 1 2000
    · skip
      have HE := Lib.hid (show duOk s l j lo = false by simp [duOk, j1])
      go_enter Tryz.func32, Tryz.ntmps32
      go_wp2_with (first
            | (go_at_call 50; (with_reducible refine (l01Name_any s _ hs).mono ?_); rintro e w' ⟨rfl, rfl⟩)
            | (go_at_call 51; (with_reducible refine (l00In_any _ _ _ _).mono ?_); rintro e w' ⟨rfl, rfl⟩))
      go_ret
      exact ⟨ret_bool (by first | exact HE.out.symm | (simp only [j1]; exact HE.out.symm)), rfl⟩
    · cases j2 : inB j 5 50
      · skip
        have HE := Lib.hid (show duOk s l j lo = false by simp [duOk, j2])
        go_enter Tryz.func32, Tryz.ntmps32
        go_wp2_with (first
              | (go_at_call 50; (with_reducible refine (l01Name_any s _ hs).mono ?_); rintro e w' ⟨rfl, rfl⟩)
              | (go_at_call 51; (with_reducible refine (l00In_any _ _ _ _).mono ?_); rintro e w' ⟨rfl, rfl⟩))
        go_ret
        exact ⟨ret_bool (by first | exact HE.out.symm | (simp only [j2]; exact HE.out.symm)), rfl⟩
      · cases j3 : inB lo 0 100000
        · skip
          have HE := Lib.hid (show duOk s l j lo = false by simp [duOk, j3])
          go_enter Tryz.func32, Tryz.ntmps32
          go_wp2_with (first
                | (go_at_call 50; (with_reducible refine (l01Name_any s _ hs).mono ?_); rintro e w' ⟨rfl, rfl⟩)
                | (go_at_call 51; (with_reducible refine (l00In_any _ _ _ _).mono ?_); rintro e w' ⟨rfl, rfl⟩))
          go_ret
          exact ⟨ret_bool (by first | exact HE.out.symm | (simp only [j3]; exact HE.out.symm)), rfl⟩
        · skip
          have HE := Lib.hid (show duOk s l j lo = true by simp [duOk, hn, j1, j2, j3])
          go_enter Tryz.func32, Tryz.ntmps32
          go_wp2_with (first
                | (go_at_call 50; (with_reducible refine (l01Name_any s _ hs).mono ?_); rintro e w' ⟨rfl, rfl⟩)
                | (go_at_call 51; (with_reducible refine (l00In_any _ _ _ _).mono ?_); rintro e w' ⟨rfl, rfl⟩))
          go_ret
          exact ⟨ret_bool (by first | exact HE.out.symm | (simp only [hn, j1, j2, j3]; exact HE.out.symm)), rfl⟩
theorem l11Ok_below (b : Nat) (s : ByteArray) (l j lo : Int) (w : World) (hs : s.size ≤ maxLen) (hc : DuAt w b s l j lo) :
    Calls Tryz.prog 32 #[.pointer (some ⟨b, 0, none⟩)] w fun e w' => e = .returned (.bool (duOk s l j lo)) ∧ Below w.heap.size w w' :=
  (l11Ok_same b s l j lo w hs hc).mono fun _ _ ⟨a, h⟩ => ⟨a, h ▸ Below.refl _ _⟩
set_option maxHeartbeats 1000000 in
theorem iValidDuct_any (s : ByteArray) (l j lo : Int) (w : World) (hs : s.size ≤ maxLen) :
    Calls Tryz.prog 22 #[.agg #[.string s, .int .i64 l, .int .i64 j, .int .i64 lo]] w fun e w' => e = .returned (.bool (duOk s l j lo)) ∧ Below w.heap.size w w' := by
  cases hn : isNm s
  · skip
    have HE := Lib.hid (show duOk s l j lo = false by simp [duOk, hn])
    go_enter Tryz.func22, Tryz.ntmps22
    go_wp2_with fail
    (with_reducible refine (iIsName_any s _ hs).mono ?_)
    rintro e w1 ⟨rfl, hd⟩
    have HB1 := Lib.hid (show Below w.heap.size w w1 from (below_box _ _).trans (hd.mono (by simp)))
    have hz : w.heap.size < w1.heap.size := Nat.lt_of_lt_of_le (by simp) hd.size
    have k1 : w1.cell? ⟨w.heap.size, 1, none⟩ = some (.int .i64 l) := (hd.cell (by simp)).trans (by simp)
    have k2 : w1.cell? ⟨w.heap.size, 2, none⟩ = some (.int .i64 j) := (hd.cell (by simp)).trans (by simp)
    have k3 : w1.cell? ⟨w.heap.size, 3, none⟩ = some (.int .i64 lo) := (hd.cell (by simp)).trans (by simp)
    have hn1 : ¬ (w.heap.size = w1.heap.size) := by omega
    have hn2 : ¬ (w.heap.size = w1.heap.size + 1) := by omega
    have hn3 : ¬ (w.heap.size = w1.heap.size + 1 + 1) := by omega
    clear hd
    go_wp2
    go_ret
    exact ⟨ret_bool (by first | exact HE.out.symm | (simp only [hn]; exact HE.out.symm)), HB1.out⟩
  · cases j1 : inB l 1 2000
    · skip
      have HE := Lib.hid (show duOk s l j lo = false by simp [duOk, j1])
      go_enter Tryz.func22, Tryz.ntmps22
      go_wp2_with fail
      (with_reducible refine (iIsName_any s _ hs).mono ?_)
      rintro e w1 ⟨rfl, hd⟩
      have HB1 := Lib.hid (show Below w.heap.size w w1 from (below_box _ _).trans (hd.mono (by simp)))
      have hz : w.heap.size < w1.heap.size := Nat.lt_of_lt_of_le (by simp) hd.size
      have k1 : w1.cell? ⟨w.heap.size, 1, none⟩ = some (.int .i64 l) := (hd.cell (by simp)).trans (by simp)
      have k2 : w1.cell? ⟨w.heap.size, 2, none⟩ = some (.int .i64 j) := (hd.cell (by simp)).trans (by simp)
      have k3 : w1.cell? ⟨w.heap.size, 3, none⟩ = some (.int .i64 lo) := (hd.cell (by simp)).trans (by simp)
      have hn1 : ¬ (w.heap.size = w1.heap.size) := by omega
      have hn2 : ¬ (w.heap.size = w1.heap.size + 1) := by omega
      have hn3 : ¬ (w.heap.size = w1.heap.size + 1 + 1) := by omega
      clear hd
      go_wp2_with fail
      (with_reducible refine (within64_one _ _ _ _ _ _ (by simp)).mono ?_)
      rintro e w' ⟨rfl, rfl⟩
      go_wp2
      go_ret
      exact ⟨ret_bool (by first | exact HE.out.symm | (simp only [j1]; exact HE.out.symm)), (HB1.out.alloc (by first | exact HB1.out.size | (simp; have := HB1.out.size; omega)) (.cells #[.int .i64 l] 2))⟩
    · cases j2 : inB j 5 50
      · skip
        have HE := Lib.hid (show duOk s l j lo = false by simp [duOk, j2])
        go_enter Tryz.func22, Tryz.ntmps22
        go_wp2_with fail
        (with_reducible refine (iIsName_any s _ hs).mono ?_)
        rintro e w1 ⟨rfl, hd⟩
        have HB1 := Lib.hid (show Below w.heap.size w w1 from (below_box _ _).trans (hd.mono (by simp)))
        have hz : w.heap.size < w1.heap.size := Nat.lt_of_lt_of_le (by simp) hd.size
        have k1 : w1.cell? ⟨w.heap.size, 1, none⟩ = some (.int .i64 l) := (hd.cell (by simp)).trans (by simp)
        have k2 : w1.cell? ⟨w.heap.size, 2, none⟩ = some (.int .i64 j) := (hd.cell (by simp)).trans (by simp)
        have k3 : w1.cell? ⟨w.heap.size, 3, none⟩ = some (.int .i64 lo) := (hd.cell (by simp)).trans (by simp)
        have hn1 : ¬ (w.heap.size = w1.heap.size) := by omega
        have hn2 : ¬ (w.heap.size = w1.heap.size + 1) := by omega
        have hn3 : ¬ (w.heap.size = w1.heap.size + 1 + 1) := by omega
        clear hd
        go_wp2_with fail
        (with_reducible refine (within64_one _ _ _ _ _ _ (by simp)).mono ?_)
        rintro e w' ⟨rfl, rfl⟩
        go_wp2_with fail
        (with_reducible refine (within64_one _ _ _ _ _ _ (by simp)).mono ?_)
        rintro e w' ⟨rfl, rfl⟩
        go_wp2
        go_ret
        exact ⟨ret_bool (by first | exact HE.out.symm | (simp only [j2]; exact HE.out.symm)), ((HB1.out.alloc (by first | exact HB1.out.size | (simp; have := HB1.out.size; omega)) (.cells #[.int .i64 l] 2)).alloc (by first | exact HB1.out.size | (simp; have := HB1.out.size; omega)) (.cells #[.int .i64 j] 2))⟩
      · cases j3 : inB lo 0 100000
        · skip
          have HE := Lib.hid (show duOk s l j lo = false by simp [duOk, j3])
          go_enter Tryz.func22, Tryz.ntmps22
          go_wp2_with fail
          (with_reducible refine (iIsName_any s _ hs).mono ?_)
          rintro e w1 ⟨rfl, hd⟩
          have HB1 := Lib.hid (show Below w.heap.size w w1 from (below_box _ _).trans (hd.mono (by simp)))
          have hz : w.heap.size < w1.heap.size := Nat.lt_of_lt_of_le (by simp) hd.size
          have k1 : w1.cell? ⟨w.heap.size, 1, none⟩ = some (.int .i64 l) := (hd.cell (by simp)).trans (by simp)
          have k2 : w1.cell? ⟨w.heap.size, 2, none⟩ = some (.int .i64 j) := (hd.cell (by simp)).trans (by simp)
          have k3 : w1.cell? ⟨w.heap.size, 3, none⟩ = some (.int .i64 lo) := (hd.cell (by simp)).trans (by simp)
          have hn1 : ¬ (w.heap.size = w1.heap.size) := by omega
          have hn2 : ¬ (w.heap.size = w1.heap.size + 1) := by omega
          have hn3 : ¬ (w.heap.size = w1.heap.size + 1 + 1) := by omega
          clear hd
          go_wp2_with fail
          (with_reducible refine (within64_one _ _ _ _ _ _ (by simp)).mono ?_)
          rintro e w' ⟨rfl, rfl⟩
          go_wp2_with fail
          (with_reducible refine (within64_one _ _ _ _ _ _ (by simp)).mono ?_)
          rintro e w' ⟨rfl, rfl⟩
          go_wp2_with fail
          (with_reducible refine (within64_one _ _ _ _ _ _ (by simp)).mono ?_)
          rintro e w' ⟨rfl, rfl⟩
          go_wp2
          go_ret
          exact ⟨ret_bool (by first | exact HE.out.symm | (simp only [j3]; exact HE.out.symm)), (((HB1.out.alloc (by first | exact HB1.out.size | (simp; have := HB1.out.size; omega)) (.cells #[.int .i64 l] 2)).alloc (by first | exact HB1.out.size | (simp; have := HB1.out.size; omega)) (.cells #[.int .i64 j] 2)).alloc (by first | exact HB1.out.size | (simp; have := HB1.out.size; omega)) (.cells #[.int .i64 lo] 2))⟩
        · skip
          have HE := Lib.hid (show duOk s l j lo = true by simp [duOk, hn, j1, j2, j3])
          go_enter Tryz.func22, Tryz.ntmps22
          go_wp2_with fail
          (with_reducible refine (iIsName_any s _ hs).mono ?_)
          rintro e w1 ⟨rfl, hd⟩
          have HB1 := Lib.hid (show Below w.heap.size w w1 from (below_box _ _).trans (hd.mono (by simp)))
          have hz : w.heap.size < w1.heap.size := Nat.lt_of_lt_of_le (by simp) hd.size
          have k1 : w1.cell? ⟨w.heap.size, 1, none⟩ = some (.int .i64 l) := (hd.cell (by simp)).trans (by simp)
          have k2 : w1.cell? ⟨w.heap.size, 2, none⟩ = some (.int .i64 j) := (hd.cell (by simp)).trans (by simp)
          have k3 : w1.cell? ⟨w.heap.size, 3, none⟩ = some (.int .i64 lo) := (hd.cell (by simp)).trans (by simp)
          have hn1 : ¬ (w.heap.size = w1.heap.size) := by omega
          have hn2 : ¬ (w.heap.size = w1.heap.size + 1) := by omega
          have hn3 : ¬ (w.heap.size = w1.heap.size + 1 + 1) := by omega
          clear hd
          go_wp2_with fail
          (with_reducible refine (within64_one _ _ _ _ _ _ (by simp)).mono ?_)
          rintro e w' ⟨rfl, rfl⟩
          go_wp2_with fail
          (with_reducible refine (within64_one _ _ _ _ _ _ (by simp)).mono ?_)
          rintro e w' ⟨rfl, rfl⟩
          go_wp2_with fail
          (with_reducible refine (within64_one _ _ _ _ _ _ (by simp)).mono ?_)
          rintro e w' ⟨rfl, rfl⟩
          go_wp2
          go_ret
          exact ⟨ret_bool (by first | exact HE.out.symm | (simp only [hn, j1, j2, j3]; exact HE.out.symm)), (((HB1.out.alloc (by first | exact HB1.out.size | (simp; have := HB1.out.size; omega)) (.cells #[.int .i64 l] 2)).alloc (by first | exact HB1.out.size | (simp; have := HB1.out.size; omega)) (.cells #[.int .i64 j] 2)).alloc (by first | exact HB1.out.size | (simp; have := HB1.out.size; omega)) (.cells #[.int .i64 lo] 2))⟩
theorem duJ_tdiv {l j : Int} (h1 : 1 ≤ l ∧ l ≤ 2000) (h2 : 5 ≤ j ∧ j ≤ 50) : duJ l j = (l - 1).tdiv j := (Int.tdiv_eq_ediv_of_nonneg (by omega)).symm
theorem l11Joints_any (b : Nat) (s : ByteArray) (l j lo : Int) (w : World) (hc : DuAt w b s l j lo) (h1 : 1 ≤ l ∧ l ≤ 2000) (h2 : 5 ≤ j ∧ j ≤ 50) :
    Calls Tryz.prog 35 #[.pointer (some ⟨b, 0, none⟩)] w fun e w' => e = .returned (.int .i64 (duJ l j)) ∧ Below w.heap.size w w' := by
  obtain ⟨c0, c1, c2, c3⟩ := hc
  have HE := Lib.hid (And.intro (duJ_tdiv h1 h2) (show duJ l j = (l - 1) / j from rfl))
  have hj0 : j ≠ 0 := by omega
  have hJ := duJ_bd h1.1 h1.2 h2.1
  have hJ2 : 0 ≤ (l - 1).tdiv j ∧ (l - 1).tdiv j ≤ 1999 := by rw [← HE.out.1]; exact hJ
  unfold duJ at hJ
  obtain ⟨a1, a2⟩ := h1
  obtain ⟨a3, a4⟩ := h2
  obtain ⟨a5, a6⟩ := hJ
  obtain ⟨a7, a8⟩ := hJ2
  go_enter Tryz.func35, Tryz.ntmps35
  go_wp2_with fail
  refine wp_region_held (S := fun w' => w'.cell? ⟨b, 0, none⟩ = some (.string s) ∧ w'.cell? ⟨b, 1, none⟩ = some (.int .i64 l) ∧ w'.cell? ⟨b, 2, none⟩ = some (.int .i64 j) ∧ w'.cell? ⟨b, 3, none⟩ = some (.int .i64 lo) ∧ Below w.heap.size w w') (by kernel_rfl) ?_
  try (change wpAnyH _ _ _ _ _ _ _ _ (World.drew _))
  have hS0 := (show w.drew.cell? ⟨b, 0, none⟩ = some (.string s) ∧ w.drew.cell? ⟨b, 1, none⟩ = some (.int .i64 l) ∧ w.drew.cell? ⟨b, 2, none⟩ = some (.int .i64 j) ∧ w.drew.cell? ⟨b, 3, none⟩ = some (.int .i64 lo) ∧ Below w.heap.size w w.drew from ⟨c0, c1, c2, c3, Below.drew (Below.refl _ _)⟩)
  refine gTake 0 (v := ?_) rfl (by kernel_rfl) (by kernel_rfl) (by kernel_rfl) (fun _ _ _ h => h) (by kernel_rfl) ?_ hS0 ?_
  rotate_left
  · (intro W hW; clear hW; go_simp; try with_reducible rfl)
  refine gTake 1 (v := ?_) rfl (by kernel_rfl) (by kernel_rfl) (by kernel_rfl) (fun _ _ _ h => h) (by kernel_rfl) ?_ hS0 ?_
  rotate_left
  · (intro W hW; clear hW; go_simp; try with_reducible rfl)
  refine gTake 2 (v := ?_) rfl (by kernel_rfl) (by kernel_rfl) (by kernel_rfl) (fun _ _ _ h => h) (by kernel_rfl) ?_ hS0 ?_
  rotate_left
  · (intro W hW; clear hW; go_simp; try with_reducible rfl)
  refine gTake 3 (v := ?_) rfl (by kernel_rfl) (by kernel_rfl) (by kernel_rfl) (fun _ _ _ h => h) (by kernel_rfl) ?_ hS0 ?_
  rotate_left
  · (intro W hW; have q0 := hW.1; have q1 := hW.2.1; have q2 := hW.2.2.1; have q3 := hW.2.2.2.1; clear hW; go_simp; try with_reducible rfl)
  refine gTake 4 (v := ?_) rfl (by kernel_rfl) (by kernel_rfl) (by kernel_rfl) (fun _ _ _ h => h) (by kernel_rfl) ?_ hS0 ?_
  rotate_left
  · (intro W hW; clear hW; go_simp; try with_reducible rfl)
  refine gTake 5 (v := ?_) rfl (by kernel_rfl) (by kernel_rfl) (by kernel_rfl) (fun _ _ _ h => h) (by kernel_rfl) ?_ hS0 ?_
  rotate_left
  · (intro W hW; clear hW; go_simp; try with_reducible rfl)
  refine gTake 6 (v := ?_) rfl (by kernel_rfl) (by kernel_rfl) (by kernel_rfl) (fun _ _ _ h => h) (by kernel_rfl) ?_ hS0 ?_
  rotate_left
  · (intro W hW; clear hW; go_simp; try with_reducible rfl)
  refine gTake 7 (v := ?_) rfl (by kernel_rfl) (by kernel_rfl) (by kernel_rfl) (fun _ _ _ h => h) (by kernel_rfl) ?_ hS0 ?_
  rotate_left
  · (intro W hW; clear hW; go_simp; try with_reducible rfl)
  refine gTake 8 (v := ?_) rfl (by kernel_rfl) (by kernel_rfl) (by kernel_rfl) (fun _ _ _ h => h) (by kernel_rfl) ?_ hS0 ?_
  rotate_left
  · (intro W hW; have q0 := hW.1; have q1 := hW.2.1; have q2 := hW.2.2.1; have q3 := hW.2.2.2.1; clear hW; go_simp; try with_reducible rfl)
  refine gTake 9 (v := ?_) rfl (by kernel_rfl) (by kernel_rfl) (by kernel_rfl) (fun _ _ _ h => h) (by kernel_rfl) ?_ hS0 ?_
  rotate_left
  · (intro W hW; clear hW; go_simp; try with_reducible rfl)
  refine gTake 10 (v := ?_) rfl (by kernel_rfl) (by kernel_rfl) (by kernel_rfl) (fun _ _ _ h => h) (by kernel_rfl) ?_ hS0 ?_
  rotate_left
  · (intro W hW; clear hW; go_simp; try with_reducible rfl)
  refine wpAnyH_done (by kernel_rfl) ?_ _
  go_simp
  go_wp2
  go_ret
  exact ⟨ret_int (by rw [IntWalk.i64_in (l - 1) (by omega), IntWalk.i64_in _ (by omega)]; first | exact HE.out.1.symm | exact HE.out.2.symm), hS0.2.2.2.2⟩
theorem joints_any (s : ByteArray) (l j lo : Int) (w : World) (h1 : 1 ≤ l ∧ l ≤ 2000) (h2 : 5 ≤ j ∧ j ≤ 50) :
    Calls Tryz.prog 25 #[.agg #[.string s, .int .i64 l, .int .i64 j, .int .i64 lo]] w fun e w' => e = .returned (.int .i64 (duJ l j)) ∧ Below w.heap.size w w' := by
  have HE := Lib.hid (And.intro (duJ_tdiv h1 h2) (show duJ l j = (l - 1) / j from rfl))
  have hj0 : j ≠ 0 := by omega
  have hJ := duJ_bd h1.1 h1.2 h2.1
  have hJ2 : 0 ≤ (l - 1).tdiv j ∧ (l - 1).tdiv j ≤ 1999 := by rw [← HE.out.1]; exact hJ
  unfold duJ at hJ
  obtain ⟨a1, a2⟩ := h1
  obtain ⟨a3, a4⟩ := h2
  obtain ⟨a5, a6⟩ := hJ
  obtain ⟨a7, a8⟩ := hJ2
  go_enter Tryz.func25, Tryz.ntmps25
  go_wp2
  go_ret
  exact ⟨ret_int (by first | exact HE.out.1.symm | exact HE.out.2.symm), below_box _ _⟩
theorem l11Flow_any (q : Int) (w : World) : Calls Tryz.prog 33 #[.int .i64 q] w fun e w' => e = .returned (.bool (inB q 0 100000)) ∧ w = w' := by
  go_enter Tryz.func33, Tryz.ntmps33
  go_wp2_with (go_at_call 51; (with_reducible refine (l00In_any _ _ _ _).mono ?_); rintro e w' ⟨rfl, rfl⟩)
  go_ret
  exact ⟨rfl, rfl⟩
theorem areDuctFlows_any (v : Value) (xs : List Int) (w : World) (hv : Row .i64 w v xs) (hl : xs.length ≤ 1048576) :
    Calls Tryz.prog 23 #[v] w fun e w' => e = .returned (.bool (allR 0 100000 xs)) ∧ w = w' := by
  obtain ⟨B, cap, rfl⟩ := hv.form
  have HV := Lib.hid hv
  clear hv
  go_enter Tryz.func23, Tryz.ntmps23
  go_wp2_with (go_at_call 26; (with_reducible refine (within64_any _ _ _ xs _ HV.out (by omega)).mono ?_); rintro e w' ⟨rfl, rfl⟩)
  go_ret
  exact ⟨rfl, rfl⟩
theorem areDuctFlows_one (x : Int) (W : World) (T : TypeId) (b : Nat) (hb : b = W.heap.size) :
    Calls Tryz.prog 23 #[.slice (some ⟨b, 0, none⟩) 1 1] (W.alloc (.cells #[.int .i64 x] T)) fun e w' => e = .returned (.bool (inB x 0 100000)) ∧ W.alloc (.cells #[.int .i64 x] T) = w' := by
  have h := areDuctFlows_any (.slice (some ⟨b, 0, none⟩) 1 1) [x] _ (row_here .i64 W [x] T b 1 1 hb rfl) (by simp)
  rwa [allR_one] at h
theorem allR_pair (lo hi x y : Int) : allR lo hi [x, y] = (inB x lo hi && inB y lo hi) := by
  rw [Bool.eq_iff_iff, allR_iff, Bool.and_eq_true, inB_iff, inB_iff]
  simp
theorem areDuctFlows_two (x y : Int) (W : World) (T : TypeId) (b : Nat) (hb : b = W.heap.size) :
    Calls Tryz.prog 23 #[.slice (some ⟨b, 0, none⟩) 2 2] (W.alloc (.cells #[.int .i64 x, .int .i64 y] T)) fun e w' => e = .returned (.bool (inB x 0 100000 && inB y 0 100000)) ∧ W.alloc (.cells #[.int .i64 x, .int .i64 y] T) = w' := by
  have h := areDuctFlows_any (.slice (some ⟨b, 0, none⟩) 2 2) [x, y] _ (row_here .i64 W [x, y] T b 2 2 hb rfl) (by simp)
  rwa [allR_pair] at h
theorem areDuctFlows_oneB (x : Int) (W : World) (T : TypeId) (b : Nat) (hb : b = W.heap.size) :
    Calls Tryz.prog 23 #[.slice (some ⟨b, 0, none⟩) 1 1] (W.alloc (.cells #[.int .i64 x] T)) fun e w' => e = .returned (.bool (inB x 0 100000)) ∧ Below W.heap.size W w' :=
  (areDuctFlows_one x W T b hb).mono fun _ _ ⟨a, h⟩ => ⟨a, h ▸ below_box _ _⟩
theorem areDuctFlows_twoB (x y : Int) (W : World) (T : TypeId) (b : Nat) (hb : b = W.heap.size) :
    Calls Tryz.prog 23 #[.slice (some ⟨b, 0, none⟩) 2 2] (W.alloc (.cells #[.int .i64 x, .int .i64 y] T)) fun e w' => e = .returned (.bool (inB x 0 100000 && inB y 0 100000)) ∧ Below W.heap.size W w' :=
  (areDuctFlows_two x y W T b hb).mono fun _ _ ⟨a, h⟩ => ⟨a, h ▸ below_box _ _⟩
theorem within64_oneB (lo hi x : Int) (W : World) (T : TypeId) (b : Nat) (hb : b = W.heap.size) :
    Calls Tryz.prog 26 #[.int .i64 lo, .int .i64 hi, .slice (some ⟨b, 0, none⟩) 1 1] (W.alloc (.cells #[.int .i64 x] T)) fun e w' => e = .returned (.bool (inB x lo hi)) ∧ Below W.heap.size W w' :=
  (within64_one lo hi x W T b hb).mono fun _ _ ⟨a, h⟩ => ⟨a, h ▸ below_box _ _⟩
set_option maxHeartbeats 1000000 in
theorem l11After_any (b : Nat) (s : ByteArray) (l j lo : Int) (q : Int) (N : Nat) (w : World) (hc : DuAt w b s l j lo) (h1 : 0 ≤ lo ∧ lo ≤ 100000) (h2 : 0 ≤ q ∧ q ≤ 100000) (hN : N ≤ 2000) :
    Calls Tryz.prog 34 #[.pointer (some ⟨b, 0, none⟩), .int .i64 q, .int .i64 (N : Int)] w fun e w' => e = .returned (.int .i64 (aft lo N q)) ∧ w = w' := by
  have H1 := Lib.hid h1
  have H2 := Lib.hid h2
  obtain ⟨c0, c1, c2, c3⟩ := hc
  go_enter Tryz.func34, Tryz.ntmps34
  go_wp2
  go_loopw [1, 7] (fun x i wr => ∃ k : Nat, k ≤ N ∧ x = .int .i64 (aft lo k q) ∧ i = .int .i64 k ∧ wr = w) (fun x i wr => N - (intOf i).toNat)
  case atStart => exact ⟨0, by omega, rfl, rfl, rfl⟩
  case round =>
    obtain ⟨k, hk, rfl, rfl, rfl⟩ := hrel
    have hb := aft_bd H1.out.1 H1.out.2 H2.out.1 k
    have hm := stp_mul H1.out.1 H1.out.2 hb.1 (Int.le_trans hb.2 H2.out.2)
    have hs := stp_bd H1.out.1 H1.out.2 hb.1
    have HN := Lib.hid (show aft lo (k + 1) q = aft lo k q - divR (aft lo k q * lo) 1000000 from rfl)
    unfold stp at hs
    by_cases hlt : k < N
    · have hlI : (k : Int) < (N : Int) := by omega
      generalize aft lo k q = x at *
      go_wp2_with (go_at_call 52; (with_reducible refine (l01Div_any _ _ _ (by omega) (by omega) (by omega) (by omega) (by omega)).mono ?_); rintro e w' ⟨rfl, rfl⟩)
      go_roundw
      case rel => exact ⟨k + 1, by omega, by rw [HN.out], by go_num, (by first | rfl | trivial)⟩
      case measure => simp [intOf]; omega
    · obtain rfl : k = N := by omega
      go_wp2
      go_ret
      exact ⟨rfl, rfl⟩
set_option maxHeartbeats 1000000 in
theorem after_any (s : ByteArray) (l j lo : Int) (q : Int) (N : Nat) (w : World)  (h1 : 0 ≤ lo ∧ lo ≤ 100000) (h2 : 0 ≤ q ∧ q ≤ 100000) (hN : N ≤ 2000) :
    Calls Tryz.prog 24 #[.agg #[.string s, .int .i64 l, .int .i64 j, .int .i64 lo], .int .i64 q, .int .i64 (N : Int)] w fun e w' => e = .returned (.int .i64 (aft lo N q)) ∧ Below w.heap.size w w' := by
  have H1 := Lib.hid h1
  have H2 := Lib.hid h2
  have HB0 := Lib.hid (below_box w (.cells #[.string s, .int .i64 l, .int .i64 j, .int .i64 lo] 25))
  go_enter Tryz.func24, Tryz.ntmps24
  go_wp2
  go_loopw [1, 8] (fun x i wr => ∃ k : Nat, k ≤ N ∧ x = .int .i64 (aft lo k q) ∧ i = .int .i64 k ∧ Hid (wr.cell? ⟨w.heap.size, 3, none⟩ = some (.int .i64 lo) ∧ Below w.heap.size w wr)) (fun x i wr => N - (intOf i).toNat)
  case atStart => exact ⟨0, by omega, rfl, rfl, Lib.hid ⟨by simp, HB0.out⟩⟩
  case round =>
    obtain ⟨k, hk, rfl, rfl, HW⟩ := hrel
    have hb := aft_bd H1.out.1 H1.out.2 H2.out.1 k
    have hm := stp_mul H1.out.1 H1.out.2 hb.1 (Int.le_trans hb.2 H2.out.2)
    have hs := stp_bd H1.out.1 H1.out.2 hb.1
    have HN := Lib.hid (show aft lo (k + 1) q = aft lo k q - divR (aft lo k q * lo) 1000000 from rfl)
    unfold stp at hs
    have cl := HW.out.1
    by_cases hlt : k < N
    · have hlI : (k : Int) < (N : Int) := by omega
      generalize aft lo k q = x at *
      go_wp2_with (go_at_call 37; (with_reducible refine (nearest_any _ _ _ (by omega) (by omega) (by omega) (by omega)).mono ?_); rintro e w' ⟨rfl, n, rfl⟩)
      go_roundw
      case rel => exact ⟨k + 1, by omega, by rw [HN.out], by go_num, Lib.hid ⟨HW.out.1, below_drewN' HW.out.2 n⟩⟩
      case measure => simp [intOf]; omega
    · obtain rfl : k = N := by omega
      go_wp2
      go_ret
      exact ⟨rfl, HW.out.2⟩
set_option maxHeartbeats 1000000 in
theorem iJointsOf_any (s : ByteArray) (l j lo : Int)  (w : World) (hs : s.size ≤ maxLen) :
    Calls Tryz.prog 8 #[.agg #[.string s, .int .i64 l, .int .i64 j, .int .i64 lo]] w fun e w' => e = .returned (.tuple #[.int .i64 (joA s l j lo), .int .i64 (joB s l j lo)]) ∧ Below w.heap.size w w' := by
  have HS := Lib.hid hs
  cases hok : duOk s l j lo
  · have HE := Lib.hid (show joA s l j lo = 0 ∧ joB s l j lo = 1 by simp [joA, joB, hok])
    go_enter Tryz.func8, Tryz.ntmps8
    go_wp2_with (first
          | (go_at_call 22; (with_reducible refine (iValidDuct_any s l j lo (w.alloc (.cells #[.string s, .int .i64 l, .int .i64 j, .int .i64 lo] 25)) hs).mono ?_); rintro e w1 ⟨rfl, hd1⟩; have hb1 := hd1; obtain ⟨hc1, hf1⟩ := bcell hb1; have hz1 : w.heap.size < w1.heap.size := Nat.lt_of_lt_of_le (by first | (simp; done) | (simp; omega)) hb1.size; clear hd1))
    go_ret2
    exact ⟨ret_two HE.out.1.symm HE.out.2.symm, (show Below w.heap.size w w1 from (below_box _ _).trans (hb1.mono (by simp)))⟩
  · have HE := Lib.hid (show joA s l j lo = duJ l j ∧ joB s l j lo = 0 by simp [joA, joB, hok])
    obtain ⟨_, hj1, hj2, hlo⟩ := duOk_bd hok
    have hJ := duJ_bd hj1.1 hj1.2 hj2.1
    go_enter Tryz.func8, Tryz.ntmps8
    go_wp2_with (first
          | (go_at_call 22; (with_reducible refine (iValidDuct_any s l j lo (w.alloc (.cells #[.string s, .int .i64 l, .int .i64 j, .int .i64 lo] 25)) hs).mono ?_); rintro e w1 ⟨rfl, hd1⟩; have hb1 := hd1; obtain ⟨hc1, hf1⟩ := bcell hb1; have hz1 : w.heap.size < w1.heap.size := Nat.lt_of_lt_of_le (by first | (simp; done) | (simp; omega)) hb1.size; clear hd1)
          | (go_at_call 25; (with_reducible refine (joints_any s l j lo w1 hj1 hj2).mono ?_); rintro e w2 ⟨rfl, hd2⟩; have hb2 := hb1.trans (hd2.mono hb1.size); obtain ⟨hc2, hf2⟩ := bcell hb2; have hz2 : w.heap.size < w2.heap.size := Nat.lt_of_lt_of_le (by first | (simp; done) | (simp; omega)) hb2.size; clear hd2))
    go_ret2
    exact ⟨ret_two HE.out.1.symm HE.out.2.symm, (show Below w.heap.size w w2 from (below_box _ _).trans (hb2.mono (by simp)))⟩
theorem lAftJ (b : Nat) (s : ByteArray) (l j lo : Int) (q : Int) (w : World) (hc : DuAt w b s l j lo) (g1 : 1 ≤ l ∧ l ≤ 2000) (g2 : 5 ≤ j ∧ j ≤ 50) (h1 : 0 ≤ lo ∧ lo ≤ 100000) (h2 : 0 ≤ q ∧ q ≤ 100000) :
    Calls Tryz.prog 34 #[.pointer (some ⟨b, 0, none⟩), .int .i64 q, .int .i64 (duJ l j)] w fun e w' => e = .returned (.int .i64 (aft lo (duJ l j).toNat q)) ∧ w = w' := by
  have hJ := duJ_bd g1.1 g1.2 g2.1
  have h := l11After_any b s l j lo q (duJ l j).toNat w hc h1 h2 (by omega)
  rwa [show (((duJ l j).toNat : Nat) : Int) = duJ l j by omega] at h
theorem aftJ (s : ByteArray) (l j lo : Int) (q : Int) (w : World) (g1 : 1 ≤ l ∧ l ≤ 2000) (g2 : 5 ≤ j ∧ j ≤ 50) (h1 : 0 ≤ lo ∧ lo ≤ 100000) (h2 : 0 ≤ q ∧ q ≤ 100000) :
    Calls Tryz.prog 24 #[.agg #[.string s, .int .i64 l, .int .i64 j, .int .i64 lo], .int .i64 q, .int .i64 (duJ l j)] w fun e w' => e = .returned (.int .i64 (aft lo (duJ l j).toNat q)) ∧ Below w.heap.size w w' := by
  have hJ := duJ_bd g1.1 g1.2 g2.1
  have h := after_any s l j lo q (duJ l j).toNat w h1 h2 (by omega)
  rwa [show (((duJ l j).toNat : Nat) : Int) = duJ l j by omega] at h
set_option maxHeartbeats 1000000 in
theorem sFlowAtEnd_any (s : ByteArray) (l j lo : Int) (q : Int) (w : World) (hs : s.size ≤ maxLen) :
    Calls Tryz.prog 14 #[.agg #[.string s, .int .i64 l, .int .i64 j, .int .i64 lo], .int .i64 q] w fun e w' => e = .returned (.tuple #[.int .i64 (feA s l j lo q), .int .i64 (feB s l j lo q)]) ∧ Below w.heap.size w w' := by
  have HS := Lib.hid hs
  cases hok : duOk s l j lo
  · have HE := Lib.hid (show feA s l j lo q = 0 ∧ feB s l j lo q = 1 by simp [feA, feB, hok])
    go_enter Tryz.func14, Tryz.ntmps14
    go_wp2_with (first
          | (go_at_call 32; (with_reducible refine (l11Ok_below w.heap.size s l j lo (w.alloc (.cells #[.string s, .int .i64 l, .int .i64 j, .int .i64 lo] 25)) hs (duBoxed s l j lo w)).mono ?_); rintro e w1 ⟨rfl, hd1⟩; have hb1 := hd1; obtain ⟨hc1, hf1⟩ := bcell hb1; have hz1 : w.heap.size < w1.heap.size := Nat.lt_of_lt_of_le (by first | (simp; done) | (simp; omega)) hb1.size; clear hd1))
    go_ret2
    exact ⟨ret_two HE.out.1.symm HE.out.2.symm, (show Below w.heap.size w w1 from (below_box _ _).trans (hb1.mono (by simp)))⟩
  · cases hq : inB q 0 100000
    · have HE := Lib.hid (show feA s l j lo q = 0 ∧ feB s l j lo q = 2 by simp [feA, feB, hok, hq])
      go_enter Tryz.func14, Tryz.ntmps14
      go_wp2_with (first
            | (go_at_call 32; (with_reducible refine (l11Ok_below w.heap.size s l j lo (w.alloc (.cells #[.string s, .int .i64 l, .int .i64 j, .int .i64 lo] 25)) hs (duBoxed s l j lo w)).mono ?_); rintro e w1 ⟨rfl, hd1⟩; have hb1 := hd1; obtain ⟨hc1, hf1⟩ := bcell hb1; have hz1 : w.heap.size < w1.heap.size := Nat.lt_of_lt_of_le (by first | (simp; done) | (simp; omega)) hb1.size; clear hd1)
            | (go_at_call 33; (with_reducible refine (l11Flow_any _ _).mono ?_); rintro e w' ⟨rfl, rfl⟩))
      go_ret2
      exact ⟨ret_two HE.out.1.symm HE.out.2.symm, (show Below w.heap.size w w1 from (below_box _ _).trans (hb1.mono (by simp)))⟩
    · have HE := Lib.hid (show feA s l j lo q = aft lo (duJ l j).toNat q ∧ feB s l j lo q = 0 by simp [feA, feB, hok, hq])
      have hqb := inB_iff.1 hq
      obtain ⟨_, hj1, hj2, hlo⟩ := duOk_bd hok
      have hJ := duJ_bd hj1.1 hj1.2 hj2.1
      go_enter Tryz.func14, Tryz.ntmps14
      go_wp2_with (first
            | (go_at_call 32; (with_reducible refine (l11Ok_below w.heap.size s l j lo (w.alloc (.cells #[.string s, .int .i64 l, .int .i64 j, .int .i64 lo] 25)) hs (duBoxed s l j lo w)).mono ?_); rintro e w1 ⟨rfl, hd1⟩; have hb1 := hd1; obtain ⟨hc1, hf1⟩ := bcell hb1; have hz1 : w.heap.size < w1.heap.size := Nat.lt_of_lt_of_le (by first | (simp; done) | (simp; omega)) hb1.size; clear hd1)
            | (go_at_call 33; (with_reducible refine (l11Flow_any _ _).mono ?_); rintro e w' ⟨rfl, rfl⟩)
            | (go_at_call 35; (with_reducible refine (l11Joints_any w.heap.size s l j lo w1 ((duBoxed s l j lo w).below hb1 (by simp)) hj1 hj2).mono ?_); rintro e w2 ⟨rfl, hd2⟩; have hb2 := hb1.trans (hd2.mono hb1.size); obtain ⟨hc2, hf2⟩ := bcell hb2; have hz2 : w.heap.size < w2.heap.size := Nat.lt_of_lt_of_le (by first | (simp; done) | (simp; omega)) hb2.size; clear hd2)
            | (go_at_call 34; (with_reducible refine (lAftJ w.heap.size s l j lo q w2 ((duBoxed s l j lo w).below hb2 (by simp)) hj1 hj2 hlo hqb).mono ?_); rintro e w' ⟨rfl, rfl⟩))
      go_ret2
      exact ⟨ret_two HE.out.1.symm HE.out.2.symm, (show Below w.heap.size w w2 from (below_box _ _).trans (hb2.mono (by simp)))⟩
set_option maxHeartbeats 1000000 in
theorem iFlowAtEnd_any (s : ByteArray) (l j lo : Int) (q : Int) (w : World) (hs : s.size ≤ maxLen) :
    Calls Tryz.prog 7 #[.agg #[.string s, .int .i64 l, .int .i64 j, .int .i64 lo], .int .i64 q] w fun e w' => e = .returned (.tuple #[.int .i64 (feA s l j lo q), .int .i64 (feB s l j lo q)]) ∧ Below w.heap.size w w' := by
  have HS := Lib.hid hs
  cases hok : duOk s l j lo
  · have HE := Lib.hid (show feA s l j lo q = 0 ∧ feB s l j lo q = 1 by simp [feA, feB, hok])
    go_enter Tryz.func7, Tryz.ntmps7
    go_wp2_with (first
          | (go_at_call 22; (with_reducible refine (iValidDuct_any s l j lo (w.alloc (.cells #[.string s, .int .i64 l, .int .i64 j, .int .i64 lo] 25)) hs).mono ?_); rintro e w1 ⟨rfl, hd1⟩; have hb1 := hd1; obtain ⟨hc1, hf1⟩ := bcell hb1; have hz1 : w.heap.size < w1.heap.size := Nat.lt_of_lt_of_le (by first | (simp; done) | (simp; omega)) hb1.size; clear hd1))
    go_ret2
    exact ⟨ret_two HE.out.1.symm HE.out.2.symm, (show Below w.heap.size w w1 from (below_box _ _).trans (hb1.mono (by simp)))⟩
  · cases hq : inB q 0 100000
    · have HE := Lib.hid (show feA s l j lo q = 0 ∧ feB s l j lo q = 2 by simp [feA, feB, hok, hq])
      go_enter Tryz.func7, Tryz.ntmps7
      go_wp2_with (first
            | (go_at_call 22; (with_reducible refine (iValidDuct_any s l j lo (w.alloc (.cells #[.string s, .int .i64 l, .int .i64 j, .int .i64 lo] 25)) hs).mono ?_); rintro e w1 ⟨rfl, hd1⟩; have hb1 := hd1; obtain ⟨hc1, hf1⟩ := bcell hb1; have hz1 : w.heap.size < w1.heap.size := Nat.lt_of_lt_of_le (by first | (simp; done) | (simp; omega)) hb1.size; clear hd1)
            | (go_at_call 23; (with_reducible refine (areDuctFlows_oneB _ w1 _ _ (by simp)).mono ?_); rintro e w2 ⟨rfl, hd2⟩; have hb2 := hb1.trans (hd2.mono hb1.size); obtain ⟨hc2, hf2⟩ := bcell hb2; have hz2 : w.heap.size < w2.heap.size := Nat.lt_of_lt_of_le (by first | (simp; done) | (simp; omega)) hb2.size; clear hd2))
      go_ret2
      exact ⟨ret_two HE.out.1.symm HE.out.2.symm, (show Below w.heap.size w w2 from (below_box _ _).trans (hb2.mono (by simp)))⟩
    · have HE := Lib.hid (show feA s l j lo q = aft lo (duJ l j).toNat q ∧ feB s l j lo q = 0 by simp [feA, feB, hok, hq])
      have hqb := inB_iff.1 hq
      obtain ⟨_, hj1, hj2, hlo⟩ := duOk_bd hok
      have hJ := duJ_bd hj1.1 hj1.2 hj2.1
      go_enter Tryz.func7, Tryz.ntmps7
      go_wp2_with fail
      (with_reducible refine (iValidDuct_any s l j lo (w.alloc (.cells #[.string s, .int .i64 l, .int .i64 j, .int .i64 lo] 25)) HS.out).mono ?_)
      rintro e w1 ⟨rfl, hd1⟩
      have HB1 := Lib.hid (show Below w.heap.size w w1 from (below_box _ _).trans (hd1.mono (by simp)))
      obtain ⟨c0, c1, c2, c3⟩ := (duBoxed s l j lo w).below hd1 (by simp)
      have D1 := Lib.hid (show DuAt w1 w.heap.size s l j lo from ⟨c0, c1, c2, c3⟩)
      rw [hok]
      clear hd1
      go_wp2_with fail
      (with_reducible refine (areDuctFlows_oneB _ w1 _ _ (by simp)).mono ?_)
      rintro e w2 ⟨rfl, hd2⟩
      have HB2 := Lib.hid (HB1.out.trans (hd2.mono HB1.out.size))
      obtain ⟨d0, d1, d2, d3⟩ := D1.out.below hd2 D1.out.lt
      clear hd2 c0 c1 c2 c3
      rw [hq]
      go_wp2_with fail
      refine wp_region_held (S := fun w' => w'.cell? ⟨w.heap.size, 0, none⟩ = some (.string s) ∧ w'.cell? ⟨w.heap.size, 1, none⟩ = some (.int .i64 l) ∧ w'.cell? ⟨w.heap.size, 2, none⟩ = some (.int .i64 j) ∧ w'.cell? ⟨w.heap.size, 3, none⟩ = some (.int .i64 lo) ∧ Below w.heap.size w w') (by kernel_rfl) ?_
      try (change wpAnyH _ _ _ _ _ _ _ _ (World.drew _))
      have hS0 := (show w2.drew.cell? ⟨w.heap.size, 0, none⟩ = some (.string s) ∧ w2.drew.cell? ⟨w.heap.size, 1, none⟩ = some (.int .i64 l) ∧ w2.drew.cell? ⟨w.heap.size, 2, none⟩ = some (.int .i64 j) ∧ w2.drew.cell? ⟨w.heap.size, 3, none⟩ = some (.int .i64 lo) ∧ Below w.heap.size w w2.drew from ⟨d0, d1, d2, d3, Below.drew HB2.out⟩)
      refine gTake 0 (v := ?_) rfl (by kernel_rfl) (by kernel_rfl) (by kernel_rfl) (fun _ _ _ h => h) (by kernel_rfl) ?_ hS0 ?_
      rotate_left
      · (intro W hW; have q0 := hW.1; have q1 := hW.2.1; have q2 := hW.2.2.1; have q3 := hW.2.2.2.1; clear hW; go_simp; try with_reducible rfl)
      refine gTake 1 (v := ?_) rfl (by kernel_rfl) (by kernel_rfl) (by kernel_rfl) (fun _ _ _ h => h) (by kernel_rfl) ?_ hS0 ?_
      rotate_left
      · (intro W hW; clear hW; go_simp; try with_reducible rfl)
      refine gTake 2 (v := ?_) rfl (by kernel_rfl) (by kernel_rfl) (by kernel_rfl) (fun _ _ _ h => h) (by kernel_rfl) ?_ hS0 ?_
      rotate_left
      · (intro W hW; have q0 := hW.1; have q1 := hW.2.1; have q2 := hW.2.2.1; have q3 := hW.2.2.2.1; clear hW; go_simp; try with_reducible rfl)
      refine gOne 3 rfl (by kernel_rfl) (by kernel_rfl) (fun K hK => ?_)
      go_simp
      go_at_call 25
      (with_reducible refine (joints_any s l j lo _ hj1 hj2).mono ?_)
      rintro e wq0 ⟨rfl, hdq0⟩
      try go_simp
      have hS1 := (show wq0.cell? ⟨w.heap.size, 0, none⟩ = some (.string s) ∧ wq0.cell? ⟨w.heap.size, 1, none⟩ = some (.int .i64 l) ∧ wq0.cell? ⟨w.heap.size, 2, none⟩ = some (.int .i64 j) ∧ wq0.cell? ⟨w.heap.size, 3, none⟩ = some (.int .i64 lo) ∧ Below w.heap.size w wq0 from ⟨cellK hS0.1 hdq0, cellK hS0.2.1 hdq0, cellK hS0.2.2.1 hdq0, cellK hS0.2.2.2.1 hdq0, hS0.2.2.2.2.trans (hdq0.mono hS0.2.2.2.2.size)⟩)
      refine hK _ _ hS1 ?_
      clear hK K
      refine gOne 4 rfl (by kernel_rfl) (by kernel_rfl) (fun K hK => ?_)
      go_simp
      go_at_call 24
      (with_reducible refine (aftJ s l j lo q _ hj1 hj2 hlo hqb).mono ?_)
      rintro e wq1 ⟨rfl, hdq1⟩
      try go_simp
      have hS2 := (show wq1.cell? ⟨w.heap.size, 0, none⟩ = some (.string s) ∧ wq1.cell? ⟨w.heap.size, 1, none⟩ = some (.int .i64 l) ∧ wq1.cell? ⟨w.heap.size, 2, none⟩ = some (.int .i64 j) ∧ wq1.cell? ⟨w.heap.size, 3, none⟩ = some (.int .i64 lo) ∧ Below w.heap.size w wq1 from ⟨cellK hS1.1 hdq1, cellK hS1.2.1 hdq1, cellK hS1.2.2.1 hdq1, cellK hS1.2.2.2.1 hdq1, hS1.2.2.2.2.trans (hdq1.mono hS1.2.2.2.2.size)⟩)
      refine hK _ _ hS2 ?_
      clear hK K
      refine gTake 5 (v := ?_) rfl (by kernel_rfl) (by kernel_rfl) (by kernel_rfl) (fun _ _ _ h => h) (by kernel_rfl) ?_ hS2 ?_
      rotate_left
      · (intro W hW; clear hW; go_simp; try with_reducible rfl)
      refine gTake 6 (v := ?_) rfl (by kernel_rfl) (by kernel_rfl) (by kernel_rfl) (fun _ _ _ h => h) (by kernel_rfl) ?_ hS2 ?_
      rotate_left
      · (intro W hW; clear hW; go_simp; try with_reducible rfl)
      refine wpAnyH_done (by kernel_rfl) ?_ _
      go_simp
      go_wp2
      go_ret2
      exact ⟨ret_two HE.out.1.symm HE.out.2.symm, hS2.2.2.2.2⟩
set_option maxHeartbeats 1000000 in
theorem iFlowAfter_any (s : ByteArray) (l j lo : Int) (q k : Int) (w : World) (hs : s.size ≤ maxLen) :
    Calls Tryz.prog 9 #[.agg #[.string s, .int .i64 l, .int .i64 j, .int .i64 lo], .int .i64 q, .int .i64 k] w fun e w' => e = .returned (.tuple #[.int .i64 (faA s l j lo q k), .int .i64 (faB s l j lo q k)]) ∧ Below w.heap.size w w' := by
  have HS := Lib.hid hs
  cases hok : duOk s l j lo
  · have HE := Lib.hid (show faA s l j lo q k = 0 ∧ faB s l j lo q k = 1 by simp [faA, faB, hok])
    go_enter Tryz.func9, Tryz.ntmps9
    go_wp2_with (first
          | (go_at_call 22; (with_reducible refine (iValidDuct_any s l j lo (w.alloc (.cells #[.string s, .int .i64 l, .int .i64 j, .int .i64 lo] 25)) hs).mono ?_); rintro e w1 ⟨rfl, hd1⟩; have hb1 := hd1; obtain ⟨hc1, hf1⟩ := bcell hb1; have hz1 : w.heap.size < w1.heap.size := Nat.lt_of_lt_of_le (by first | (simp; done) | (simp; omega)) hb1.size; clear hd1))
    go_ret2
    exact ⟨ret_two HE.out.1.symm HE.out.2.symm, (show Below w.heap.size w w1 from (below_box _ _).trans (hb1.mono (by simp)))⟩
  · obtain ⟨_, hj1, hj2, hlo⟩ := duOk_bd hok
    have hJ := duJ_bd hj1.1 hj1.2 hj2.1
    cases hq : inB q 0 100000
    · have HE := Lib.hid (show faA s l j lo q k = 0 ∧ faB s l j lo q k = 2 by simp [faA, faB, hok, hq])
      go_enter Tryz.func9, Tryz.ntmps9
      go_wp2_with (first
            | (go_at_call 22; (with_reducible refine (iValidDuct_any s l j lo (w.alloc (.cells #[.string s, .int .i64 l, .int .i64 j, .int .i64 lo] 25)) hs).mono ?_); rintro e w1 ⟨rfl, hd1⟩; have hb1 := hd1; obtain ⟨hc1, hf1⟩ := bcell hb1; have hz1 : w.heap.size < w1.heap.size := Nat.lt_of_lt_of_le (by first | (simp; done) | (simp; omega)) hb1.size; clear hd1)
            | (go_at_call 23; (with_reducible refine (areDuctFlows_oneB _ w1 _ _ (by simp)).mono ?_); rintro e w2 ⟨rfl, hd2⟩; have hb2 := hb1.trans (hd2.mono hb1.size); obtain ⟨hc2, hf2⟩ := bcell hb2; have hz2 : w.heap.size < w2.heap.size := Nat.lt_of_lt_of_le (by first | (simp; done) | (simp; omega)) hb2.size; clear hd2))
      go_ret2
      exact ⟨ret_two HE.out.1.symm HE.out.2.symm, (show Below w.heap.size w w2 from (below_box _ _).trans (hb2.mono (by simp)))⟩
    · cases hk : inB k 0 (duJ l j)
      · have HE := Lib.hid (show faA s l j lo q k = 0 ∧ faB s l j lo q k = 2 by simp [faA, faB, hok, hq, hk])
        go_enter Tryz.func9, Tryz.ntmps9
        go_wp2_with (first
              | (go_at_call 22; (with_reducible refine (iValidDuct_any s l j lo (w.alloc (.cells #[.string s, .int .i64 l, .int .i64 j, .int .i64 lo] 25)) hs).mono ?_); rintro e w1 ⟨rfl, hd1⟩; have hb1 := hd1; obtain ⟨hc1, hf1⟩ := bcell hb1; have hz1 : w.heap.size < w1.heap.size := Nat.lt_of_lt_of_le (by first | (simp; done) | (simp; omega)) hb1.size; clear hd1)
              | (go_at_call 23; (with_reducible refine (areDuctFlows_oneB _ w1 _ _ (by simp)).mono ?_); rintro e w2 ⟨rfl, hd2⟩; have hb2 := hb1.trans (hd2.mono hb1.size); obtain ⟨hc2, hf2⟩ := bcell hb2; have hz2 : w.heap.size < w2.heap.size := Nat.lt_of_lt_of_le (by first | (simp; done) | (simp; omega)) hb2.size; clear hd2)
              | (go_at_call 25; (with_reducible refine (joints_any s l j lo w2 hj1 hj2).mono ?_); rintro e w3 ⟨rfl, hd3⟩; have hb3 := hb2.trans (hd3.mono hb2.size); obtain ⟨hc3, hf3⟩ := bcell hb3; have hz3 : w.heap.size < w3.heap.size := Nat.lt_of_lt_of_le (by first | (simp; done) | (simp; omega)) hb3.size; clear hd3)
              | (go_at_call 26; (with_reducible refine (within64_oneB _ _ _ w3 _ _ (by simp)).mono ?_); rintro e w4 ⟨rfl, hd4⟩; have hb4 := hb3.trans (hd4.mono hb3.size); obtain ⟨hc4, hf4⟩ := bcell hb4; have hz4 : w.heap.size < w4.heap.size := Nat.lt_of_lt_of_le (by first | (simp; done) | (simp; omega)) hb4.size; clear hd4))
        go_ret2
        exact ⟨ret_two HE.out.1.symm HE.out.2.symm, (show Below w.heap.size w w4 from (below_box _ _).trans (hb4.mono (by simp)))⟩
      · have HE0 := Lib.hid (show faA s l j lo q k = aft lo k.toNat q ∧ faB s l j lo q k = 0 by simp [faA, faB, hok, hq, hk])
        have hqb := inB_iff.1 hq
        have hkb := inB_iff.1 hk
        obtain ⟨K, rfl⟩ := Int.eq_ofNat_of_zero_le hkb.1
        have HE := Lib.hid (show faA s l j lo q (K : Int) = aft lo K q ∧ faB s l j lo q (K : Int) = 0 from HE0.out)
        clear HE0
        go_enter Tryz.func9, Tryz.ntmps9
        go_wp2_with (first
              | (go_at_call 22; (with_reducible refine (iValidDuct_any s l j lo (w.alloc (.cells #[.string s, .int .i64 l, .int .i64 j, .int .i64 lo] 25)) hs).mono ?_); rintro e w1 ⟨rfl, hd1⟩; have hb1 := hd1; obtain ⟨hc1, hf1⟩ := bcell hb1; have hz1 : w.heap.size < w1.heap.size := Nat.lt_of_lt_of_le (by first | (simp; done) | (simp; omega)) hb1.size; clear hd1)
              | (go_at_call 23; (with_reducible refine (areDuctFlows_oneB _ w1 _ _ (by simp)).mono ?_); rintro e w2 ⟨rfl, hd2⟩; have hb2 := hb1.trans (hd2.mono hb1.size); obtain ⟨hc2, hf2⟩ := bcell hb2; have hz2 : w.heap.size < w2.heap.size := Nat.lt_of_lt_of_le (by first | (simp; done) | (simp; omega)) hb2.size; clear hd2)
              | (go_at_call 25; (with_reducible refine (joints_any s l j lo w2 hj1 hj2).mono ?_); rintro e w3 ⟨rfl, hd3⟩; have hb3 := hb2.trans (hd3.mono hb2.size); obtain ⟨hc3, hf3⟩ := bcell hb3; have hz3 : w.heap.size < w3.heap.size := Nat.lt_of_lt_of_le (by first | (simp; done) | (simp; omega)) hb3.size; clear hd3)
              | (go_at_call 26; (with_reducible refine (within64_oneB _ _ _ w3 _ _ (by simp)).mono ?_); rintro e w4 ⟨rfl, hd4⟩; have hb4 := hb3.trans (hd4.mono hb3.size); obtain ⟨hc4, hf4⟩ := bcell hb4; have hz4 : w.heap.size < w4.heap.size := Nat.lt_of_lt_of_le (by first | (simp; done) | (simp; omega)) hb4.size; clear hd4)
              | (go_at_call 24; (with_reducible refine (after_any s l j lo q K w4 hlo hqb (by omega)).mono ?_); rintro e w5 ⟨rfl, hd5⟩; have hb5 := hb4.trans (hd5.mono hb4.size); obtain ⟨hc5, hf5⟩ := bcell hb5; have hz5 : w.heap.size < w5.heap.size := Nat.lt_of_lt_of_le (by first | (simp; done) | (simp; omega)) hb5.size; clear hd5))
        go_ret2
        exact ⟨ret_two HE.out.1.symm HE.out.2.symm, (show Below w.heap.size w w5 from (below_box _ _).trans (hb5.mono (by simp)))⟩
theorem isNeed_any (bd bn : Nat) (s : ByteArray) (l j lo : Int) (need q : Int) (w : World) (hj1 : 1 ≤ l ∧ l ≤ 2000) (hj2 : 5 ≤ j ∧ j ≤ 50) (hlo : 0 ≤ lo ∧ lo ≤ 100000) (hqb : 0 ≤ q ∧ q ≤ 100000) (hd : DuAt w bd s l j lo) (dn : w.cell? ⟨bn, 0, none⟩ = some (.int .i64 need)) :
    Calls Tryz.prog 31 #[.int .i64 q, .pointer (some ⟨bd, 0, none⟩), .pointer (some ⟨bn, 0, none⟩)] w fun e w' => e = .returned (.bool (decide (need ≤ aft lo (duJ l j).toNat q))) ∧ Below w.heap.size w w' := by
  obtain ⟨d0, d1, d2, d3⟩ := hd
  go_enter Tryz.func31, Tryz.ntmps31
  go_wp2_with fail
  refine wp_region_held (S := fun w' => w'.cell? ⟨bd, 0, none⟩ = some (.string s) ∧ w'.cell? ⟨bd, 1, none⟩ = some (.int .i64 l) ∧ w'.cell? ⟨bd, 2, none⟩ = some (.int .i64 j) ∧ w'.cell? ⟨bd, 3, none⟩ = some (.int .i64 lo) ∧ w'.cell? ⟨bn, 0, none⟩ = some (.int .i64 need) ∧ Below w.heap.size w w') (by kernel_rfl) ?_
  try (change wpAnyH _ _ _ _ _ _ _ _ (World.drew _))
  have hS0 := (show w.drew.cell? ⟨bd, 0, none⟩ = some (.string s) ∧ w.drew.cell? ⟨bd, 1, none⟩ = some (.int .i64 l) ∧ w.drew.cell? ⟨bd, 2, none⟩ = some (.int .i64 j) ∧ w.drew.cell? ⟨bd, 3, none⟩ = some (.int .i64 lo) ∧ w.drew.cell? ⟨bn, 0, none⟩ = some (.int .i64 need) ∧ Below w.heap.size w w.drew from ⟨d0, d1, d2, d3, dn, Below.drew (Below.refl _ _)⟩)
  refine gTake 0 (v := ?_) rfl (by kernel_rfl) (by kernel_rfl) (by kernel_rfl) (fun _ _ _ h => h) (by kernel_rfl) ?_ hS0 ?_
  rotate_left
  · (intro W hW; have q0 := hW.1; have q1 := hW.2.1; have q2 := hW.2.2.1; have q3 := hW.2.2.2.1; have q4 := hW.2.2.2.2.1; clear hW; go_simp; try with_reducible rfl)
  refine gTake 1 (v := ?_) rfl (by kernel_rfl) (by kernel_rfl) (by kernel_rfl) (fun _ _ _ h => h) (by kernel_rfl) ?_ hS0 ?_
  rotate_left
  · (intro W hW; clear hW; go_simp; try with_reducible rfl)
  refine gTake 2 (v := ?_) rfl (by kernel_rfl) (by kernel_rfl) (by kernel_rfl) (fun _ _ _ h => h) (by kernel_rfl) ?_ hS0 ?_
  rotate_left
  · (intro W hW; have q0 := hW.1; have q1 := hW.2.1; have q2 := hW.2.2.1; have q3 := hW.2.2.2.1; have q4 := hW.2.2.2.2.1; clear hW; go_simp; try with_reducible rfl)
  refine gTake 5 (v := ?_) rfl (by kernel_rfl) (by kernel_rfl) (by kernel_rfl) (fun _ _ _ h => h) (by kernel_rfl) ?_ hS0 ?_
  rotate_left
  · (intro W hW; have q0 := hW.1; have q1 := hW.2.1; have q2 := hW.2.2.1; have q3 := hW.2.2.2.1; have q4 := hW.2.2.2.2.1; clear hW; go_simp; try with_reducible rfl)
  refine gOne 3 rfl (by kernel_rfl) (by kernel_rfl) (fun K hK => ?_)
  go_simp
  go_at_call 25
  (with_reducible refine (joints_any s l j lo _ hj1 hj2).mono ?_)
  rintro e wq0 ⟨rfl, hdq0⟩
  try go_simp
  have hS1 := (show wq0.cell? ⟨bd, 0, none⟩ = some (.string s) ∧ wq0.cell? ⟨bd, 1, none⟩ = some (.int .i64 l) ∧ wq0.cell? ⟨bd, 2, none⟩ = some (.int .i64 j) ∧ wq0.cell? ⟨bd, 3, none⟩ = some (.int .i64 lo) ∧ wq0.cell? ⟨bn, 0, none⟩ = some (.int .i64 need) ∧ Below w.heap.size w wq0 from ⟨cellK hS0.1 hdq0, cellK hS0.2.1 hdq0, cellK hS0.2.2.1 hdq0, cellK hS0.2.2.2.1 hdq0, cellK hS0.2.2.2.2.1 hdq0, hS0.2.2.2.2.2.trans (hdq0.mono hS0.2.2.2.2.2.size)⟩)
  refine hK _ _ hS1 ?_
  clear hK K
  refine gOne 4 rfl (by kernel_rfl) (by kernel_rfl) (fun K hK => ?_)
  go_simp
  go_at_call 24
  (with_reducible refine (aftJ s l j lo q _ hj1 hj2 hlo hqb).mono ?_)
  rintro e wq1 ⟨rfl, hdq1⟩
  try go_simp
  have hS2 := (show wq1.cell? ⟨bd, 0, none⟩ = some (.string s) ∧ wq1.cell? ⟨bd, 1, none⟩ = some (.int .i64 l) ∧ wq1.cell? ⟨bd, 2, none⟩ = some (.int .i64 j) ∧ wq1.cell? ⟨bd, 3, none⟩ = some (.int .i64 lo) ∧ wq1.cell? ⟨bn, 0, none⟩ = some (.int .i64 need) ∧ Below w.heap.size w wq1 from ⟨cellK hS1.1 hdq1, cellK hS1.2.1 hdq1, cellK hS1.2.2.1 hdq1, cellK hS1.2.2.2.1 hdq1, cellK hS1.2.2.2.2.1 hdq1, hS1.2.2.2.2.2.trans (hdq1.mono hS1.2.2.2.2.2.size)⟩)
  refine hK _ _ hS2 ?_
  clear hK K
  refine gTake 6 (v := ?_) rfl (by kernel_rfl) (by kernel_rfl) (by kernel_rfl) (fun _ _ _ h => h) (by kernel_rfl) ?_ hS2 ?_
  rotate_left
  · (intro W hW; clear hW; go_simp; try with_reducible rfl)
  refine gTake 7 (v := ?_) rfl (by kernel_rfl) (by kernel_rfl) (by kernel_rfl) (fun _ _ _ h => h) (by kernel_rfl) ?_ hS2 ?_
  rotate_left
  · (intro W hW; clear hW; go_simp; try with_reducible rfl)
  refine wpAnyH_done (by kernel_rfl) ?_ _
  go_simp
  go_wp2
  go_ret
  exact ⟨rfl, hS2.2.2.2.2.2⟩
theorem stepN (bd bn : Nat) (p : Int → Bool) (lo : Int) (i : Nat) (bf bl : Nat) (w1 : World) (c0 : w1.cell? ⟨bf, 0, none⟩ = some (.func (.func 31) #[] #[.pointer (some ⟨bd, 0, none⟩), .pointer (some ⟨bn, 0, none⟩)])) (c1 : w1.cell? ⟨bl, 0, none⟩ = some (.int .i64 lo))
    (h1 : -1000000 ≤ lo ∧ lo ≤ 1000000) (h2 : i ≤ 1000000) (hf : Calls Tryz.prog 31 #[.int .i64 (lo + (i : Int)), .pointer (some ⟨bd, 0, none⟩), .pointer (some ⟨bn, 0, none⟩)] w1 fun e w2 => e = .returned (.bool (p (lo + (i : Int)))) ∧ Below w1.heap.size w1 w2) :
    Calls Tryz.prog 49 #[.int .i64 (i : Int), .pointer (some ⟨bf, 0, none⟩), .pointer (some ⟨bl, 0, none⟩)] w1 fun e w2 => e = .returned (.bool (p (lo + (i : Int)))) ∧ Below w1.heap.size w1 w2 := by
  have HF := hide hf
  clear hf
  go_enter Tryz.func49, Tryz.ntmps49
  go_wp2_with (go_at_call 31; refine (unhide HF).mono ?_; rintro e w2 ⟨rfl, hb⟩)
  go_ret
  exact ⟨rfl, hb⟩
theorem searchN (bd bn : Nat) (p : Int → Bool) (lo : Int) (n m : Nat) (bf bl : Nat) (w : World) (c0 : w.cell? ⟨bf, 0, none⟩ = some (.func (.func 31) #[] #[.pointer (some ⟨bd, 0, none⟩), .pointer (some ⟨bn, 0, none⟩)])) (c1 : w.cell? ⟨bl, 0, none⟩ = some (.int .i64 lo))
    (h1 : -1000000 ≤ lo ∧ lo ≤ 1000000) (h2 : n ≤ 1000000) (hm : m ≤ n) (hl : ∀ t, t < m → p (lo + (t : Int)) = false) (hh : ∀ t, m ≤ t → t < n → p (lo + (t : Int)) = true)
    (hf : ∀ (x : Int) (w1 : World), lo ≤ x → x < lo + n → Below w.heap.size w w1 → Calls Tryz.prog 31 #[.int .i64 x, .pointer (some ⟨bd, 0, none⟩), .pointer (some ⟨bn, 0, none⟩)] w1 fun e w2 => e = .returned (.bool (p x)) ∧ Below w1.heap.size w1 w2) :
    Calls Tryz.prog 48 #[.int .i64 (n : Int), .func (.func 49) #[] #[.pointer (some ⟨bf, 0, none⟩), .pointer (some ⟨bl, 0, none⟩)]] w fun e w2 => e = .returned (.int .i64 (m : Int)) ∧ Below w.heap.size w w2 := by
  have HF := Lib.hid hf
  have HL := Lib.hid hl
  have HH := Lib.hid hh
  have C0 := Lib.hid c0
  have C1 := Lib.hid c1
  clear hf hl hh c0 c1
  go_enter Tryz.func48, Tryz.ntmps48
  go_wp2
  go_loopw [5, 6] (fun x y wr => ∃ a b : Nat, x = .int .i64 a ∧ y = .int .i64 b ∧ (a ≤ m ∧ m ≤ b) ∧ b ≤ n ∧ Below w.heap.size w wr) (fun x y wr => (intOf y).toNat - (intOf x).toNat)
  case atStart => exact ⟨0, n, rfl, rfl, ⟨by omega, hm⟩, by omega, Below.refl _ _⟩
  case round =>
    obtain ⟨a, b, rfl, rfl, ⟨hab, hmb⟩, hbn, hbel⟩ := hrel
    by_cases hlt : a < b
    · have hc0 := (hbel.cell (World.block_lt_of_cell? _ _ C0.out)).trans C0.out
      have hc1 := (hbel.cell (World.block_lt_of_cell? _ _ C1.out)).trans C1.out
      have hs := stepN bd bn p lo ((a + b) / 2) bf bl wr hc0 hc1 h1 (by omega) (HF.out _ _ (by omega) (by omega) hbel)
      rw [show (((a + b) / 2 : Nat) : Int) = ((a : Int) + (b : Int)) / 2 by omega] at hs
      cases hp : p (lo + ((a : Int) + (b : Int)) / 2)
      · rw [hp] at hs
        have hx : (a + b) / 2 < m := by
          apply Nat.lt_of_not_le; intro hle
          have := HH.out ((a + b) / 2) hle (by omega)
          rw [show (((a + b) / 2 : Nat) : Int) = ((a : Int) + (b : Int)) / 2 by omega, hp] at this
          cases this
        have HS := hide hs
        have HP := Lib.hid hp
        have HB := Lib.hid hbel
        clear hs hp hc0 hc1 hbel
        go_wp2_with (go_at_call 49; refine (unhide HS).mono ?_; rintro e w2 ⟨rfl, hb2⟩)
        go_roundw
        case rel => exact ⟨(a + b) / 2 + 1, b, by rw [show ((a : Int) + (b : Int)) / 2 + 1 = (((a + b) / 2 + 1 : Nat) : Int) by omega], rfl, ⟨by omega, hmb⟩, hbn, HB.out.trans (hb2.mono HB.out.size)⟩
        case measure => simp [intOf]; omega
      · rw [hp] at hs
        have hx : m ≤ (a + b) / 2 := by
          apply Nat.le_of_not_lt; intro hle
          have := HL.out ((a + b) / 2) hle
          rw [show (((a + b) / 2 : Nat) : Int) = ((a : Int) + (b : Int)) / 2 by omega, hp] at this
          cases this
        have HS := hide hs
        have HP := Lib.hid hp
        have HB := Lib.hid hbel
        clear hs hp hc0 hc1 hbel
        go_wp2_with (go_at_call 49; refine (unhide HS).mono ?_; rintro e w2 ⟨rfl, hb2⟩)
        go_roundw
        case rel => exact ⟨a, (a + b) / 2, rfl, by rw [show ((a : Int) + (b : Int)) / 2 = (((a + b) / 2 : Nat) : Int) by omega], ⟨hab, hx⟩, by omega, HB.out.trans (hb2.mono HB.out.size)⟩
        case measure => simp [intOf]; omega
    · obtain rfl : m = a := by omega
      go_wp2
      go_ret
      exact ⟨rfl, hbel⟩
theorem leastN (bd bn : Nat) (p : Int → Bool) (lo hi : Int) (n m : Nat) (w : World) (h1 : -1000000 ≤ lo ∧ lo ≤ 1000000) (h3 : (n : Int) = hi - lo + 1) (h4 : hi ≤ 900000) (h5 : lo ≤ hi) (h6 : n ≤ 1000000) (hm : m ≤ n)
    (hl : ∀ t, t < m → p (lo + (t : Int)) = false) (hh : ∀ t, m ≤ t → t < n → p (lo + (t : Int)) = true)
    (hf : ∀ (x : Int) (w1 : World), lo ≤ x → x < lo + n → Below w.heap.size w w1 → Calls Tryz.prog 31 #[.int .i64 x, .pointer (some ⟨bd, 0, none⟩), .pointer (some ⟨bn, 0, none⟩)] w1 fun e w2 => e = .returned (.bool (p x)) ∧ Below w1.heap.size w1 w2) :
    Calls Tryz.prog 30 #[.int .i64 lo, .int .i64 hi, .func (.func 31) #[] #[.pointer (some ⟨bd, 0, none⟩), .pointer (some ⟨bn, 0, none⟩)]] w fun e w2 => e = .returned (.int .i64 (lo + (m : Int))) ∧ Below w.heap.size w w2 := by
  have HF := Lib.hid hf
  have HL := Lib.hid hl
  have HH := Lib.hid hh
  clear hf hl hh
  have e3 : hi - lo + 1 = (n : Int) := h3.symm
  have H3 := Lib.hid e3
  clear e3
  go_enter Tryz.func30, Tryz.ntmps30
  go_wp2_with fail
  rw [H3.out]
  have hB2 : Below w.heap.size w ((w.alloc (.cells #[.int .i64 lo] 2)).alloc (.cells #[.func (.func 31) #[] #[.pointer (some ⟨bd, 0, none⟩), .pointer (some ⟨bn, 0, none⟩)]] 53)) := (below_box _ _).alloc (by simp) _
  have hz : w.heap.size + 1 < ((w.alloc (.cells #[.int .i64 lo] 2)).alloc (.cells #[.func (.func 31) #[] #[.pointer (some ⟨bd, 0, none⟩), .pointer (some ⟨bn, 0, none⟩)]] 53)).heap.size := by simp
  refine (searchN bd bn p lo n m (w.heap.size + 1) w.heap.size _ (by simp) (by simp) h1 h6 hm HL.out HH.out (fun x w1 hx1 hx2 hb => HF.out x w1 hx1 hx2 (hB2.trans (hb.mono hB2.size)))).mono ?_
  rintro e w2 ⟨rfl, hb⟩
  obtain ⟨hc, hfz⟩ := bcell hb
  have HN := Lib.hid hB2
  have HZ := Lib.hid hz
  clear hB2
  go_wp2
  go_ret
  exact ⟨rfl, HN.out.trans (hb.mono HN.out.size)⟩
set_option maxHeartbeats 1000000 in
theorem iFlowNeeded_any (s : ByteArray) (l j lo : Int) (q : Int) (w : World) (hs : s.size ≤ maxLen) :
    Calls Tryz.prog 12 #[.agg #[.string s, .int .i64 l, .int .i64 j, .int .i64 lo], .int .i64 q] w fun e w' => e = .returned (.tuple #[.int .i64 (fnA s l j lo q), .int .i64 (fnB s l j lo q)]) ∧ Below w.heap.size w w' := by
  have HS := Lib.hid hs
  obtain ⟨W0, hW0⟩ : ∃ x, x = ((w.alloc (.cells #[.string s, .int .i64 l, .int .i64 j, .int .i64 lo] 25)).alloc (.cells #[.int .i64 q] 2)) := ⟨_, rfl⟩
  have HB0 := Lib.hid (show Below w.heap.size w W0 by rw [hW0]; exact (below_box _ _).alloc (by simp) _)
  have D0 := Lib.hid (show DuAt W0 w.heap.size s l j lo by rw [hW0]; exact (duBoxed s l j lo w).below (below_box _ _) (by simp))
  have N0 := Lib.hid (show W0.cell? ⟨w.heap.size + 1, 0, none⟩ = some (.int .i64 q) by rw [hW0]; simp)
  cases hok : duOk s l j lo
  · have HE := Lib.hid (show fnA s l j lo q = 0 ∧ fnB s l j lo q = 1 by simp [fnA, fnB, hok])
    clear D0 N0 hW0 HB0
    go_enter Tryz.func12, Tryz.ntmps12
    go_wp2_with (first
          | (go_at_call 22; (with_reducible refine (iValidDuct_any s l j lo ((w.alloc (.cells #[.string s, .int .i64 l, .int .i64 j, .int .i64 lo] 25)).alloc (.cells #[.int .i64 q] 2)) hs).mono ?_); rintro e w1 ⟨rfl, hd1⟩; have hb1 := hd1; obtain ⟨hc1, hf1⟩ := bcell hb1; have hz1 : w.heap.size < w1.heap.size := Nat.lt_of_lt_of_le (by first | (simp; done) | (simp; omega)) hb1.size; clear hd1))
    go_ret2
    exact ⟨ret_two HE.out.1.symm HE.out.2.symm, (show Below w.heap.size w w1 from ((below_box _ _).alloc (by simp) _).trans (hb1.mono (by first | (simp; done) | (simp; omega))))⟩
  · obtain ⟨_, hj1, hj2, hlo⟩ := duOk_bd hok
    cases hq : inB q 0 100000
    · have HE := Lib.hid (show fnA s l j lo q = 0 ∧ fnB s l j lo q = 2 by simp [fnA, fnB, hok, hq])
      clear D0 N0 hW0 HB0
      go_enter Tryz.func12, Tryz.ntmps12
      go_wp2_with (first
            | (go_at_call 22; (with_reducible refine (iValidDuct_any s l j lo ((w.alloc (.cells #[.string s, .int .i64 l, .int .i64 j, .int .i64 lo] 25)).alloc (.cells #[.int .i64 q] 2)) hs).mono ?_); rintro e w1 ⟨rfl, hd1⟩; have hb1 := hd1; obtain ⟨hc1, hf1⟩ := bcell hb1; have hz1 : w.heap.size < w1.heap.size := Nat.lt_of_lt_of_le (by first | (simp; done) | (simp; omega)) hb1.size; clear hd1)
            | (go_at_call 23; (with_reducible refine (areDuctFlows_oneB _ w1 _ _ (by simp)).mono ?_); rintro e w2 ⟨rfl, hd2⟩; have hb2 := hb1.trans (hd2.mono hb1.size); obtain ⟨hc2, hf2⟩ := bcell hb2; have hz2 : w.heap.size < w2.heap.size := Nat.lt_of_lt_of_le (by first | (simp; done) | (simp; omega)) hb2.size; clear hd2))
      go_ret2
      exact ⟨ret_two HE.out.1.symm HE.out.2.symm, (show Below w.heap.size w w2 from ((below_box _ _).alloc (by simp) _).trans (hb2.mono (by first | (simp; done) | (simp; omega))))⟩
    · have hqb := inB_iff.1 hq
      have HF := Lib.hid (show fnA s l j lo q = (if fnM lo (duJ l j).toNat q < 100001 then (fnM lo (duJ l j).toNat q : Int) else 0) ∧ fnB s l j lo q = (if fnM lo (duJ l j).toNat q < 100001 then 0 else 3) by simp [fnA, fnB, hok, hq])
      obtain ⟨m1, m2, m3⟩ := fnM_spec (lo := lo) (need := q) (n := (duJ l j).toNat) hlo.1 hlo.2
      have M2 := Lib.hid (show ∀ t : Nat, t < fnM lo (duJ l j).toNat q → decide (q ≤ aft lo (duJ l j).toNat (0 + (t : Int))) = false from fun t ht => by rw [Int.zero_add]; have := m2 t ht; simp only [decide_eq_false_iff_not]; omega)
      have M3 := Lib.hid (show ∀ t : Nat, fnM lo (duJ l j).toNat q ≤ t → t < 100001 → decide (q ≤ aft lo (duJ l j).toNat (0 + (t : Int))) = true from fun t a b => by rw [Int.zero_add]; have := m3 t a b; simp only [decide_eq_true_eq]; exact this)
      clear m2 m3
      generalize fnM lo (duJ l j).toNat q = m at *
      go_enter Tryz.func12, Tryz.ntmps12
      go_wp2_with fail
      rw [← hW0]
      (with_reducible refine (iValidDuct_any s l j lo W0 HS.out).mono ?_)
      rintro e w1 ⟨rfl, hd1⟩
      have HB1 := Lib.hid (HB0.out.trans (hd1.mono HB0.out.size))
      obtain ⟨c0, c1, c2, c3⟩ := D0.out.below hd1 D0.out.lt
      have D1 := Lib.hid (show DuAt w1 w.heap.size s l j lo from ⟨c0, c1, c2, c3⟩)
      have n1 := cellK N0.out hd1
      rw [hok]
      clear hd1 hW0
      go_wp2_with fail
      (with_reducible refine (areDuctFlows_oneB _ w1 _ _ (by simp)).mono ?_)
      rintro e w2 ⟨rfl, hd2⟩
      have HB2 := Lib.hid (HB1.out.trans (hd2.mono HB1.out.size))
      have D2 := Lib.hid (D1.out.below hd2 D1.out.lt)
      have N2 := Lib.hid (cellK n1 hd2)
      clear hd2 c0 c1 c2 c3 n1
      rw [hq]
      go_wp2_with fail
      (with_reducible refine (leastN w.heap.size (w.heap.size + 1) (fun x => decide (q ≤ aft lo (duJ l j).toNat x)) 0 100000 100001 m w2 (by omega) (by omega) (by omega) (by omega) (by omega) m1 M2.out M3.out (fun x w3 hx1 hx2 hb => isNeed_any w.heap.size (w.heap.size + 1) s l j lo q x w3 hj1 hj2 hlo ⟨hx1, by omega⟩ (D2.out.below hb D2.out.lt) (cellK N2.out hb))).mono ?_)
      rintro e w3 ⟨rfl, hd3⟩
      have HB3 := Lib.hid (HB2.out.trans (hd3.mono HB2.out.size))
      clear hd3
      rw [Int.zero_add]
      by_cases hm : m < 100001
      · have HE := Lib.hid (show fnA s l j lo q = (m : Int) ∧ fnB s l j lo q = 0 by rw [HF.out.1, HF.out.2, if_pos hm, if_pos hm]; exact ⟨rfl, rfl⟩)
        go_wp2
        go_ret2
        exact ⟨ret_two HE.out.1.symm HE.out.2.symm, HB3.out⟩
      · have HE := Lib.hid (show fnA s l j lo q = 0 ∧ fnB s l j lo q = 3 by rw [HF.out.1, HF.out.2, if_neg hm, if_neg hm]; exact ⟨rfl, rfl⟩)
        go_wp2
        go_ret2
        exact ⟨ret_two HE.out.1.symm HE.out.2.symm, HB3.out⟩
theorem lStep_any (b : Nat) (s : ByteArray) (l j lo : Int) (q : Int) (w : World) (hc : DuAt w b s l j lo) (h1 : 0 ≤ lo ∧ lo ≤ 100000) (h2 : 0 ≤ q ∧ q ≤ 100000) :
    Calls Tryz.prog 34 #[.pointer (some ⟨b, 0, none⟩), .int .i64 q, .int .i64 1] w fun e w' => e = .returned (.int .i64 (stp lo q)) ∧ w = w' := l11After_any b s l j lo q 1 w hc h1 h2 (by omega)
theorem iStep_any (s : ByteArray) (l j lo : Int) (q : Int) (w : World) (h1 : 0 ≤ lo ∧ lo ≤ 100000) (h2 : 0 ≤ q ∧ q ≤ 100000) :
    Calls Tryz.prog 24 #[.agg #[.string s, .int .i64 l, .int .i64 j, .int .i64 lo], .int .i64 q, .int .i64 1] w fun e w' => e = .returned (.int .i64 (stp lo q)) ∧ Below w.heap.size w w' := after_any s l j lo q 1 w h1 h2 (by omega)
set_option maxHeartbeats 1000000 in
theorem iLongestDuct_any (s : ByteArray) (l j lo : Int) (q need : Int) (w : World) (hs : s.size ≤ maxLen) :
    Calls Tryz.prog 13 #[.agg #[.string s, .int .i64 l, .int .i64 j, .int .i64 lo], .int .i64 q, .int .i64 need] w fun e w' => e = .returned (.tuple #[.int .i64 (ldA s l j lo q need), .int .i64 (ldB s l j lo q need)]) ∧ Below w.heap.size w w' := by
  have HS := Lib.hid hs
  cases hok : duOk s l j lo
  · have HE := Lib.hid (show ldA s l j lo q need = 0 ∧ ldB s l j lo q need = 1 by simp [ldA, ldB, hok])
    go_enter Tryz.func13, Tryz.ntmps13
    go_wp2_with (first
          | (go_at_call 22; (with_reducible refine (iValidDuct_any s l j lo (w.alloc (.cells #[.string s, .int .i64 l, .int .i64 j, .int .i64 lo] 25)) hs).mono ?_); rintro e w1 ⟨rfl, hd1⟩; have hb1 := hd1; obtain ⟨hc1, hf1⟩ := bcell hb1; have hz1 : w.heap.size < w1.heap.size := Nat.lt_of_lt_of_le (by first | (simp; done) | (simp; omega)) hb1.size; clear hd1))
    go_ret2
    exact ⟨ret_two HE.out.1.symm HE.out.2.symm, (show Below w.heap.size w w1 from (below_box _ _).trans (hb1.mono (by simp)))⟩
  · obtain ⟨_, hj1, hj2, hlo⟩ := duOk_bd hok
    cases hqn : (inB q 0 100000 && inB need 0 100000)
    · have HE := Lib.hid (show ldA s l j lo q need = 0 ∧ ldB s l j lo q need = 2 by simp [ldA, ldB, hok, hqn])
      go_enter Tryz.func13, Tryz.ntmps13
      go_wp2_with (first
            | (go_at_call 22; (with_reducible refine (iValidDuct_any s l j lo (w.alloc (.cells #[.string s, .int .i64 l, .int .i64 j, .int .i64 lo] 25)) hs).mono ?_); rintro e w1 ⟨rfl, hd1⟩; have hb1 := hd1; obtain ⟨hc1, hf1⟩ := bcell hb1; have hz1 : w.heap.size < w1.heap.size := Nat.lt_of_lt_of_le (by first | (simp; done) | (simp; omega)) hb1.size; clear hd1)
            | (go_at_call 23; (with_reducible refine (areDuctFlows_twoB _ _ w1 _ _ (by simp)).mono ?_); rintro e w2 ⟨rfl, hd2⟩; have hb2 := hb1.trans (hd2.mono hb1.size); obtain ⟨hc2, hf2⟩ := bcell hb2; have hz2 : w.heap.size < w2.heap.size := Nat.lt_of_lt_of_le (by first | (simp; done) | (simp; omega)) hb2.size; clear hd2))
      go_ret2
      exact ⟨ret_two HE.out.1.symm HE.out.2.symm, (show Below w.heap.size w w2 from (below_box _ _).trans (hb2.mono (by simp)))⟩
    · obtain ⟨hq, hn⟩ := Bool.and_eq_true_iff.1 hqn
      have hqb := inB_iff.1 hq
      have hnb := inB_iff.1 hn
      have HE := Lib.hid (show ldA s l j lo q need = (if need ≤ q then ldL lo j need q else 0) ∧ ldB s l j lo q need = (if need ≤ q then 0 else 3) by simp [ldA, ldB, hok, hq, hn])
      go_enter Tryz.func13, Tryz.ntmps13
      go_wp2_with fail
      (with_reducible refine (iValidDuct_any s l j lo (w.alloc (.cells #[.string s, .int .i64 l, .int .i64 j, .int .i64 lo] 25)) HS.out).mono ?_)
      rintro e w1 ⟨rfl, hd1⟩
      have HB1 := Lib.hid (show Below w.heap.size w w1 from (below_box _ _).trans (hd1.mono (by simp)))
      have D1 := Lib.hid ((duBoxed s l j lo w).below hd1 (by simp))
      obtain ⟨c0, c1, c2, c3⟩ := D1.out
      rw [hok]
      clear hd1
      go_wp2_with fail
      (with_reducible refine (areDuctFlows_twoB _ _ w1 _ _ (by simp)).mono ?_)
      rintro e w2 ⟨rfl, hd2⟩
      have HB2 := Lib.hid (HB1.out.trans (hd2.mono HB1.out.size))
      have D2 := Lib.hid (D1.out.below hd2 D1.out.lt)
      clear hd2 c0 c1 c2 c3
      rw [hqn]
      go_wp2
      go_loopw [8, 9] (fun y x wr => ∃ a b : Int, x = .int .i64 a ∧ y = .int .i64 b ∧ (0 ≤ a ∧ a ≤ 100000) ∧ (0 ≤ b ∧ b ≤ 2000) ∧ Hid ((∃ n, ldL lo j need q = ldG lo j need n a b ∧ (2000 - b).toNat ≤ n) ∧ Below w.heap.size w wr ∧ DuAt wr w.heap.size s l j lo ∧ (b = 0 → a = q) ∧ (b ≠ 0 → need ≤ q))) (fun y x wr => (2000 - intOf y).toNat)
      case atStart => exact ⟨q, 0, rfl, rfl, hqb, ⟨by omega, by omega⟩, Lib.hid ⟨⟨2000, rfl, by omega⟩, HB2.out, D2.out, fun _ => rfl, fun h => absurd rfl h⟩⟩
      case round =>
        obtain ⟨a, b, rfl, rfl, ha, hb, HL⟩ := hrel
        obtain ⟨c0, c1, c2, c3⟩ := HL.out.2.2.1
        by_cases hx : need ≤ a
        · by_cases hlt : b < 2000
          · have hs := stp_bd hlo.1 hlo.2 ha.1
            have HN := Lib.hid (show ∃ n, ldL lo j need q = ldG lo j need n (stp lo a) (if b + j ≤ 2000 then b + j else 2000) ∧ (2000 - (if b + j ≤ 2000 then b + j else 2000)).toNat ≤ n from by
              obtain ⟨⟨n, e, hn⟩, -⟩ := HL.out
              obtain ⟨m, e2, hm⟩ := ldG_on (lo := lo) (j := j) (need := need) (q := a) (l := b) (n := n) ⟨hlt, hx⟩ hn (by omega)
              exact ⟨m, e.trans e2, hm⟩)
            have HQ2 := Lib.hid (show need ≤ q by
              by_cases h0 : b = 0
              · rw [← HL.out.2.2.2.1 h0]; exact hx
              · exact HL.out.2.2.2.2 h0)
            have HL2 := Lib.hid (And.intro HL.out.2.1 HL.out.2.2.1)
            clear HL
            by_cases hc : b + j ≤ 2000
            · rw [if_pos hc] at HN
              go_wp2_with fail
              (with_reducible refine (iStep_any s l j lo a wr hlo ha).mono ?_)
              rintro e w3 ⟨rfl, hd3⟩
              have HB3 := Lib.hid (And.intro (HL2.out.1.trans (hd3.mono HL2.out.1.size)) (HL2.out.2.below hd3 HL2.out.2.lt))
              clear hd3
              go_wp2
              go_roundw
              case rel => exact ⟨stp lo a, b + j, rfl, by first | rfl | go_num, ⟨hs.1, by omega⟩, ⟨by omega, hc⟩, Lib.hid ⟨HN.out, HB3.out.1, HB3.out.2, fun h => absurd h (by omega), fun _ => HQ2.out⟩⟩
              case measure => simp [intOf]; omega
            · rw [if_neg hc] at HN
              go_wp2_with fail
              (with_reducible refine (iStep_any s l j lo a wr hlo ha).mono ?_)
              rintro e w3 ⟨rfl, hd3⟩
              have HB3 := Lib.hid (And.intro (HL2.out.1.trans (hd3.mono HL2.out.1.size)) (HL2.out.2.below hd3 HL2.out.2.lt))
              clear hd3
              go_wp2
              go_roundw
              case rel => exact ⟨stp lo a, 2000, rfl, by first | rfl | go_num, ⟨hs.1, by omega⟩, ⟨by omega, by omega⟩, Lib.hid ⟨HN.out, HB3.out.1, HB3.out.2, fun h => absurd h (by omega), fun _ => HQ2.out⟩⟩
              case measure => simp [intOf]; omega
          · have HE2 := Lib.hid (show ldL lo j need q = b by
              obtain ⟨⟨n, e, -⟩, -⟩ := HL.out
              rw [e]; exact ldG_end n (by omega))
            have HE3 := Lib.hid (show ldA s l j lo q need = b ∧ ldB s l j lo q need = 0 by
              have hle : need ≤ q := HL.out.2.2.2.2 (by omega)
              rw [HE.out.1, HE.out.2, if_pos hle, if_pos hle]; exact ⟨HE2.out, rfl⟩)
            have hb0 : ¬ b = 0 := by omega
            go_wp2
            go_ret2
            exact ⟨ret_two HE3.out.1.symm HE3.out.2.symm, HL.out.2.1⟩
        · have HE2 := Lib.hid (show ldL lo j need q = b by
            obtain ⟨⟨n, e, -⟩, -⟩ := HL.out
            rw [e]; exact ldG_end n (by omega))
          by_cases hb0 : b = 0
          · have HE3 := Lib.hid (show ldA s l j lo q need = 0 ∧ ldB s l j lo q need = 3 by
              have hle : ¬ need ≤ q := by rw [← HL.out.2.2.2.1 hb0]; exact hx
              rw [HE.out.1, HE.out.2, if_neg hle, if_neg hle]; exact ⟨rfl, rfl⟩)
            subst hb0
            go_wp2
            go_ret2
            exact ⟨ret_two HE3.out.1.symm HE3.out.2.symm, HL.out.2.1⟩
          · have HE3 := Lib.hid (show ldA s l j lo q need = b ∧ ldB s l j lo q need = 0 by
              have hle : need ≤ q := HL.out.2.2.2.2 hb0
              rw [HE.out.1, HE.out.2, if_pos hle, if_pos hle]; exact ⟨HE2.out, rfl⟩)
            go_wp2
            go_ret2
            exact ⟨ret_two HE3.out.1.symm HE3.out.2.symm, HL.out.2.1⟩
end Go.Proofs.YtoojndohddellaaGreatDoor
