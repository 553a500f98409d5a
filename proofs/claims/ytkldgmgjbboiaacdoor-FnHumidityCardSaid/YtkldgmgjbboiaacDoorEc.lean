/-
  Contracts of chapter 2: dew points; the model's and the program's. Conditions: those that each theorem states.
-/
import Derived.Test.YtkldgmgjbboiaacDoorEb
import Derived.Deep.LoopGhost
namespace Go.Proofs.YtkldgmgjbboiaacDoor
open Go.RowKit
set_option linter.unusedVariables false

theorem hide {p : Prop} (h : p) : Hid p := h
theorem unhide {p : Prop} (h : Hid p) : p := h
/-- The number of places ahead of the first that holds. -/
def firstN (p : Nat → Bool) : Nat → Nat
  | 0 => 0
  | n + 1 => if firstN p n = n then (if p n then n else n + 1) else firstN p n
theorem firstN_spec (p : Nat → Bool) (n : Nat) : firstN p n ≤ n ∧ (∀ t, t < firstN p n → p t = false) ∧ (firstN p n < n → p (firstN p n) = true) := by
  induction n with
  | zero => simp [firstN]
  | succ n ih =>
    obtain ⟨h1, h2, h3⟩ := ih
    rw [firstN]
    by_cases e : firstN p n = n
    · rw [if_pos e]
      rw [e] at h2
      cases hp : p n
      · simp only [Bool.false_eq_true, if_false]
        refine ⟨Nat.le_refl _, fun t ht => ?_, fun h => absurd h (by omega)⟩
        rcases Nat.lt_or_ge t n with q | q
        · exact h2 t q
        · rw [show t = n by omega]; exact hp
      · simp only [if_true]
        exact ⟨by omega, h2, fun _ => hp⟩
    · rw [if_neg e]
      exact ⟨by omega, h2, fun _ => h3 (by omega)⟩
theorem firstN_uniq (p : Nat → Bool) (n m : Nat) (h1 : m ≤ n) (h2 : ∀ t, t < m → p t = false) (h3 : m < n → p m = true) : firstN p n = m := by
  obtain ⟨a, b, c⟩ := firstN_spec p n
  rcases Nat.lt_trichotomy (firstN p n) m with h | h | h
  · have := h2 _ h; rw [c (by omega)] at this; cases this
  · exact h
  · have := b _ h; rw [h3 (by omega)] at this; cases this
theorem stepD (bv : Nat) (p : Int → Bool) (lo : Int) (i : Nat) (bf bl : Nat) (w1 : World) (c0 : w1.cell? ⟨bf, 0, none⟩ = some (.func (.func 63) #[] #[.pointer (some ⟨bv, 0, none⟩)])) (c1 : w1.cell? ⟨bl, 0, none⟩ = some (.int .i64 lo))
    (h1 : -1000000 ≤ lo ∧ lo ≤ 1000000) (h2 : i ≤ 1000000) (hf : Calls Tryd.prog 63 #[.int .i64 (lo + (i : Int)), .pointer (some ⟨bv, 0, none⟩)] w1 fun e w2 => e = .returned (.bool (p (lo + (i : Int)))) ∧ Below w1.heap.size w1 w2) :
    Calls Tryd.prog 90 #[.int .i64 (i : Int), .pointer (some ⟨bf, 0, none⟩), .pointer (some ⟨bl, 0, none⟩)] w1 fun e w2 => e = .returned (.bool (p (lo + (i : Int)))) ∧ Below w1.heap.size w1 w2 := by
  have HF := hide hf
  clear hf
  go_enter Tryd.func90, Tryd.ntmps90
  go_wp2_with (go_at_call 63; refine (unhide HF).mono ?_; rintro e w2 ⟨rfl, hb⟩)
  go_ret
  exact ⟨rfl, hb⟩
theorem searchD (bv : Nat) (p : Int → Bool) (lo : Int) (n m : Nat) (bf bl : Nat) (w : World) (c0 : w.cell? ⟨bf, 0, none⟩ = some (.func (.func 63) #[] #[.pointer (some ⟨bv, 0, none⟩)])) (c1 : w.cell? ⟨bl, 0, none⟩ = some (.int .i64 lo))
    (h1 : -1000000 ≤ lo ∧ lo ≤ 1000000) (h2 : n ≤ 1000000) (hm : m ≤ n) (hl : ∀ t, t < m → p (lo + (t : Int)) = false) (hh : ∀ t, m ≤ t → t < n → p (lo + (t : Int)) = true)
    (hf : ∀ (x : Int) (w1 : World), lo ≤ x → x < lo + n → Below w.heap.size w w1 → Calls Tryd.prog 63 #[.int .i64 x, .pointer (some ⟨bv, 0, none⟩)] w1 fun e w2 => e = .returned (.bool (p x)) ∧ Below w1.heap.size w1 w2) :
    Calls Tryd.prog 89 #[.int .i64 (n : Int), .func (.func 90) #[] #[.pointer (some ⟨bf, 0, none⟩), .pointer (some ⟨bl, 0, none⟩)]] w fun e w2 => e = .returned (.int .i64 (m : Int)) ∧ Below w.heap.size w w2 := by
  have HF := Lib.hid hf
  have HL := Lib.hid hl
  have HH := Lib.hid hh
  have C0 := Lib.hid c0
  have C1 := Lib.hid c1
  clear hf hl hh c0 c1
  go_enter Tryd.func89, Tryd.ntmps89
  go_wp2
  go_loopw [5, 6] (fun x y wr => ∃ a b : Nat, x = .int .i64 a ∧ y = .int .i64 b ∧ (a ≤ m ∧ m ≤ b) ∧ b ≤ n ∧ Below w.heap.size w wr) (fun x y wr => (intOf y).toNat - (intOf x).toNat)
  case atStart => exact ⟨0, n, rfl, rfl, ⟨by omega, hm⟩, by omega, Below.refl _ _⟩
  case round =>
    obtain ⟨a, b, rfl, rfl, ⟨hab, hmb⟩, hbn, hbel⟩ := hrel
    by_cases hlt : a < b
    · have hc0 := (hbel.cell (World.block_lt_of_cell? _ _ C0.out)).trans C0.out
      have hc1 := (hbel.cell (World.block_lt_of_cell? _ _ C1.out)).trans C1.out
      have hs := stepD bv p lo ((a + b) / 2) bf bl wr hc0 hc1 h1 (by omega) (HF.out _ _ (by omega) (by omega) hbel)
      rw [show (((a + b) / 2 : Nat) : Int) = ((a : Int) + (b : Int)) / 2 by omega] at hs
      cases hp : p (lo + ((a : Int) + (b : Int)) / 2)
      · rw [hp] at hs
        have hx : (a + b) / 2 < m := by
          apply Nat.lt_of_not_le; intro hle
          have := HH.out ((a + b) / 2) hle (by omega)
          rw [show (((a + b) / 2 : Nat) : Int) = ((a : Int) + (b : Int)) / 2 by omega, hp] at this
          cases this
        have HS := hide hs
        have HP := Lib.hid hp
        have HB := Lib.hid hbel
        clear hs hp hc0 hc1 hbel
        go_wp2_with (go_at_call 90; refine (unhide HS).mono ?_; rintro e w2 ⟨rfl, hb2⟩)
        go_roundw
        case rel => exact ⟨(a + b) / 2 + 1, b, by rw [show ((a : Int) + (b : Int)) / 2 + 1 = (((a + b) / 2 + 1 : Nat) : Int) by omega], rfl, ⟨by omega, hmb⟩, hbn, HB.out.trans (hb2.mono HB.out.size)⟩
        case measure => simp [intOf]; omega
      · rw [hp] at hs
        have hx : m ≤ (a + b) / 2 := by
          apply Nat.le_of_not_lt; intro hle
          have := HL.out ((a + b) / 2) hle
          rw [show (((a + b) / 2 : Nat) : Int) = ((a : Int) + (b : Int)) / 2 by omega, hp] at this
          cases this
        have HS := hide hs
        have HP := Lib.hid hp
        have HB := Lib.hid hbel
        clear hs hp hc0 hc1 hbel
        go_wp2_with (go_at_call 90; refine (unhide HS).mono ?_; rintro e w2 ⟨rfl, hb2⟩)
        go_roundw
        case rel => exact ⟨a, (a + b) / 2, rfl, by rw [show ((a : Int) + (b : Int)) / 2 = (((a + b) / 2 : Nat) : Int) by omega], ⟨hab, hx⟩, by omega, HB.out.trans (hb2.mono HB.out.size)⟩
        case measure => simp [intOf]; omega
    · obtain rfl : m = a := by omega
      go_wp2
      go_ret
      exact ⟨rfl, hbel⟩
theorem leastD (bv : Nat) (p : Int → Bool) (lo hi : Int) (n m : Nat) (w : World) (h1 : -1000000 ≤ lo ∧ lo ≤ 1000000) (h3 : (n : Int) = hi - lo + 1) (h4 : hi ≤ 900000) (h5 : lo ≤ hi) (h6 : n ≤ 1000000) (hm : m ≤ n)
    (hl : ∀ t, t < m → p (lo + (t : Int)) = false) (hh : ∀ t, m ≤ t → t < n → p (lo + (t : Int)) = true)
    (hf : ∀ (x : Int) (w1 : World), lo ≤ x → x < lo + n → Below w.heap.size w w1 → Calls Tryd.prog 63 #[.int .i64 x, .pointer (some ⟨bv, 0, none⟩)] w1 fun e w2 => e = .returned (.bool (p x)) ∧ Below w1.heap.size w1 w2) :
    Calls Tryd.prog 62 #[.int .i64 lo, .int .i64 hi, .func (.func 63) #[] #[.pointer (some ⟨bv, 0, none⟩)]] w fun e w2 => e = .returned (.int .i64 (lo + (m : Int))) ∧ Below w.heap.size w w2 := by
  have HF := Lib.hid hf
  have HL := Lib.hid hl
  have HH := Lib.hid hh
  clear hf hl hh
  have e3 : hi - lo + 1 = (n : Int) := h3.symm
  have H3 := Lib.hid e3
  clear e3
  go_enter Tryd.func62, Tryd.ntmps62
  go_wp2_with fail
  rw [H3.out]
  have hB2 : Below w.heap.size w ((w.alloc (.cells #[.int .i64 lo] 2)).alloc (.cells #[.func (.func 63) #[] #[.pointer (some ⟨bv, 0, none⟩)]] 80)) := (below_box _ _).alloc (by simp) _
  have hz : w.heap.size + 1 < ((w.alloc (.cells #[.int .i64 lo] 2)).alloc (.cells #[.func (.func 63) #[] #[.pointer (some ⟨bv, 0, none⟩)]] 80)).heap.size := by simp
  refine (searchD bv p lo n m (w.heap.size + 1) w.heap.size _ (by simp) (by simp) h1 h6 hm HL.out HH.out (fun x w1 hx1 hx2 hb => HF.out x w1 hx1 hx2 (hB2.trans (hb.mono hB2.size)))).mono ?_
  rintro e w2 ⟨rfl, hb⟩
  obtain ⟨hc, hfz⟩ := bcell hb
  have HN := Lib.hid hB2
  have HZ := Lib.hid hz
  clear hB2
  go_wp2
  go_ret
  exact ⟨rfl, HN.out.trans (hb.mono HN.out.size)⟩
/-- The place of the least temperature with enough. -/
def dewM (v : Int) : Nat := firstN (fun k => decide (v ≤ satR (-100 + (k : Int)))) 701
theorem satR_grows (k j : Nat) (h : k + j ≤ 700) : satR (-100 + (k : Int)) ≤ satR (-100 + ((k + j : Nat) : Int)) := by
  induction j with
  | zero => exact Int.le_refl _
  | succ j ih =>
    refine Int.le_trans (ih (by omega)) ?_
    have := satR_mono (-100 + ((k + j : Nat) : Int)) (by omega) (by omega)
    rwa [show -100 + ((k + j : Nat) : Int) + 1 = -100 + ((k + (j + 1) : Nat) : Int) by omega] at this
theorem dew_spec (v t : Int) (h1 : -100 ≤ t ∧ t ≤ 600) (hv : v ≤ satR t) : (dewM v : Int) ≤ t + 100 ∧ (∀ k : Nat, k < dewM v → satR (-100 + (k : Int)) < v) ∧ (∀ k : Nat, dewM v ≤ k → k ≤ 700 → v ≤ satR (-100 + (k : Int))) := by
  obtain ⟨a, b, c⟩ := firstN_spec (fun k => decide (v ≤ satR (-100 + (k : Int)))) 701
  have hB : ∀ k : Nat, k < dewM v → satR (-100 + (k : Int)) < v := fun k hk => by have := b k hk; simp only [decide_eq_false_iff_not] at this; omega
  have hm : (dewM v : Int) ≤ t + 100 := by
    apply Int.le_of_not_gt; intro hgt
    have := hB (t + 100).toNat (by omega)
    rw [show -100 + (((t + 100).toNat : Nat) : Int) = t by omega] at this
    omega
  refine ⟨hm, hB, fun k hk hk2 => ?_⟩
  have h2 := c (show dewM v < 701 by omega)
  simp only [decide_eq_true_eq] at h2
  have h3 := satR_grows (dewM v) (k - dewM v) (by omega)
  rw [show dewM v + (k - dewM v) = k by omega] at h3
  exact Int.le_trans h2 h3
/-- What DewPoint returns. -/
def dwA (t h : Int) : Int := if inB t (-100) 600 && inB h 0 1000 then (if vapR t h < 286 then 0 else -100 + (dewM (vapR t h) : Int)) else 0
def dwB (t h : Int) : Int := if inB t (-100) 600 && inB h 0 1000 then (if vapR t h < 286 then 3 else 0) else 2
theorem fitsD_any (v x : Int) (bv : Nat) (w : World) (hw : Sat w) (c0 : w.cell? ⟨bv, 0, none⟩ = some (.int .i64 v)) (h1 : -100 ≤ x) (h2 : x ≤ 600) :
    Calls Tryd.prog 63 #[.int .i64 x, .pointer (some ⟨bv, 0, none⟩)] w fun e w' => e = .returned (.bool (decide (v ≤ satR x))) ∧ Below w.heap.size w w' := by
  have HW := Lib.hid (show ∀ n, Sat (w.drewN n) from fun n => hw)
  clear hw
  go_enter Tryd.func63, Tryd.ntmps63
  go_wp2
  go_quiet ((go_at_call 64; exact quiet_dr (saturationAt_any x _ (HW.out _) h1 h2)))
  go_wp2
  go_ret
  exact ⟨rfl, below_drewN' (Below.refl _ _) _⟩
theorem iVapourOf_ok (t h : Int) (w : World) (hw : Sat w) (hok : (inB t (-100) 600 && inB h 0 1000) = true) :
    Calls Tryd.prog 36 #[.int .i64 t, .int .i64 h] w fun e w' => e = .returned (.tuple #[.int .i64 (vapR t h), .int .i64 0]) ∧ Below w.heap.size w w' :=
  (iVapourOf_any t h w hw).mono fun _ _ ⟨a, b⟩ => ⟨a.trans (ret_two (by simp [vaA, hok]) (by simp [vaB, hok])), b⟩
theorem iVapourOf_bad (t h : Int) (w : World) (hw : Sat w) (hok : (inB t (-100) 600 && inB h 0 1000) = false) :
    Calls Tryd.prog 36 #[.int .i64 t, .int .i64 h] w fun e w' => e = .returned (.tuple #[.int .i64 0, .int .i64 2]) ∧ Below w.heap.size w w' :=
  (iVapourOf_any t h w hw).mono fun _ _ ⟨a, b⟩ => ⟨a.trans (ret_two (by simp [vaA, hok]) (by simp [vaB, hok])), b⟩
set_option maxHeartbeats 1000000 in
theorem iDewPoint_any (t h : Int) (w : World) (hw : Sat w) :
    Calls Tryd.prog 35 #[.int .i64 t, .int .i64 h] w fun e w' => e = .returned (.tuple #[.int .i64 (dwA t h), .int .i64 (dwB t h)]) ∧ Below w.heap.size w w' := by
  have HW := Lib.hid hw
  clear hw
  cases hok : (inB t (-100) 600 && inB h 0 1000)
  · have HE := Lib.hid (show dwA t h = 0 ∧ dwB t h = 2 by simp [dwA, dwB, hok])
    have HK := Lib.hid hok
    clear hok
    go_enter Tryd.func35, Tryd.ntmps35
    go_wp2_with (go_at_call 36; (with_reducible refine (iVapourOf_bad t h _ HW.out HK.out).mono ?_); rintro e w1 ⟨rfl, hb1⟩)
    go_ret2
    exact ⟨ret_two HE.out.1.symm HE.out.2.symm, hb1.alloc hb1.size _⟩
  · have HK := Lib.hid hok
    have h1 := inB_iff.1 (Bool.and_eq_true _ _ |>.mp hok).1
    have h2 := inB_iff.1 (Bool.and_eq_true _ _ |>.mp hok).2
    have hvb := (vap_bd h1 h2).2
    have hvl := vap_le h1 h2
    by_cases hv : vapR t h < 286
    · have HE := Lib.hid (show dwA t h = 0 ∧ dwB t h = 3 by simp [dwA, dwB, hok, hv])
      clear hok
      go_enter Tryd.func35, Tryd.ntmps35
      go_wp2_with (go_at_call 36; (with_reducible refine (iVapourOf_ok t h _ HW.out HK.out).mono ?_); rintro e w1 ⟨rfl, hb1⟩; have hc : w1.cell? ⟨0, 0, none⟩ = some (.int .i64 286) := (HW.out.below hb1) 0 (by omega); have hz := World.block_lt_of_cell? _ _ hc)
      go_ret2
      exact ⟨ret_two HE.out.1.symm HE.out.2.symm, hb1.alloc hb1.size _⟩
    · have HE := Lib.hid (show dwA t h = -100 + (dewM (vapR t h) : Int) ∧ dwB t h = 0 by simp [dwA, dwB, hok, hv])
      clear hok
      obtain ⟨d1, d2, d3⟩ := dew_spec (vapR t h) t h1 hvl
      generalize dewM (vapR t h) = m at *
      have HL := Lib.hid (show ∀ k : Nat, k < m → decide (vapR t h ≤ satR (-100 + (k : Int))) = false from fun k hk => by have := d2 k hk; simp only [decide_eq_false_iff_not]; omega)
      have HG := Lib.hid (show ∀ k : Nat, m ≤ k → k < (t + 101).toNat → decide (vapR t h ≤ satR (-100 + (k : Int))) = true from fun k a b => by have := d3 k a (by omega); simpa using this)
      clear d2 d3
      go_enter Tryd.func35, Tryd.ntmps35
      go_wp2_with (go_at_call 36; (with_reducible refine (iVapourOf_ok t h _ HW.out HK.out).mono ?_); rintro e w1 ⟨rfl, hb1⟩; have hc : w1.cell? ⟨0, 0, none⟩ = some (.int .i64 286) := (HW.out.below hb1) 0 (by omega); have hz := World.block_lt_of_cell? _ _ hc)
      have hS := HW.out.below (hb1.alloc hb1.size (.cells #[.int .i64 (vapR t h)] 2))
      refine (leastD w1.heap.size (fun x => decide (vapR t h ≤ satR x)) (-100) t (t + 101).toNat m _ (by omega) (by omega) (by omega) (by omega) (by omega) (by omega) HL.out HG.out
        (fun x w2 hx1 hx2 hb => fitsD_any (vapR t h) x w1.heap.size w2 (hS.below hb) ((hb.cell (by simp)).trans (by simp)) hx1 (by omega))).mono ?_
      rintro e w3 ⟨rfl, hb3⟩
      have hN := (hb1.alloc hb1.size (.cells #[.int .i64 (vapR t h)] 2)).trans (hb3.mono (Below.size (hb1.alloc hb1.size _)))
      go_wp2
      go_ret2
      exact ⟨ret_two HE.out.1.symm HE.out.2.symm, hN⟩
end Go.Proofs.YtkldgmgjbboiaacDoor
