/-
  Contracts of chapter 3: the least section with at most a resistance; the model's and the program's. Conditions: those that each theorem states.
-/
import Derived.Test.YtkldgmgjbboiaabDw
import Derived.Deep.RegionWith
import Derived.RegionCalls
namespace Go.Proofs.Ytkldgmgjbboiaab
open Go.RowKit
set_option linter.unusedVariables false

theorem isEnough_any (s : ByteArray) (f t l se fr sh : Int) (R x : Int) (w : World) (hok : awOk s f t l se fr sh = true) (hx : 50 ≤ x ∧ x ≤ 5000) :
    Calls Try.prog 64 #[.agg #[.string s, .int .i64 f, .int .i64 t, .int .i64 l, .int .i64 se, .int .i64 fr, .int .i64 sh, .int .i64 R], .int .i64 x] w fun e w' => e = .returned (.bool (decide (max1 (rawR l fr sh x) ≤ R))) ∧ Below w.heap.size w w' := by
  have HOK := Lib.hid (awOk_sec hok x hx)
  clear hok
  go_enter Try.func64, Try.ntmps64
  go_wp2
  go_region_with ((go_at_call 43; refine (resistance_any s f t l x fr sh _ HOK.out).mono ?_; rintro e w1 ⟨rfl, hb1⟩; obtain ⟨hc1, hf1⟩ := bcell hb1))
  all_goals
    go_wp2
    go_ret
    exact ⟨rfl, Below.trans (Below.drew (below_box w _)) (hb1.mono (show w.heap.size ≤ (w.alloc _).heap.size by simp))⟩
theorem stepW (s : ByteArray) (f t l se fr sh R : Int) (p : Int → Bool) (lo : Int) (i : Nat) (bf bl : Nat) (w1 : World) (c0 : w1.cell? ⟨bf, 0, none⟩ = some (.func (.func 64) #[.agg #[.string s, .int .i64 f, .int .i64 t, .int .i64 l, .int .i64 se, .int .i64 fr, .int .i64 sh, .int .i64 R]] #[])) (c1 : w1.cell? ⟨bl, 0, none⟩ = some (.int .i64 lo))
    (h1 : -1000000 ≤ lo ∧ lo ≤ 1000000) (h2 : i ≤ 1000000) (hf : Calls Try.prog 64 #[.agg #[.string s, .int .i64 f, .int .i64 t, .int .i64 l, .int .i64 se, .int .i64 fr, .int .i64 sh, .int .i64 R], .int .i64 (lo + (i : Int))] w1 fun e w2 => e = .returned (.bool (p (lo + (i : Int)))) ∧ Below w1.heap.size w1 w2) :
    Calls Try.prog 73 #[.int .i64 (i : Int), .pointer (some ⟨bf, 0, none⟩), .pointer (some ⟨bl, 0, none⟩)] w1 fun e w2 => e = .returned (.bool (p (lo + (i : Int)))) ∧ Below w1.heap.size w1 w2 := by
  have HF := hide hf
  clear hf
  go_enter Try.func73, Try.ntmps73
  go_wp2_with (go_at_call 64; refine (unhide HF).mono ?_; rintro e w2 ⟨rfl, hb⟩)
  go_ret
  exact ⟨rfl, hb⟩
theorem searchW (s : ByteArray) (f t l se fr sh R : Int) (p : Int → Bool) (lo : Int) (n m : Nat) (bf bl : Nat) (w : World) (c0 : w.cell? ⟨bf, 0, none⟩ = some (.func (.func 64) #[.agg #[.string s, .int .i64 f, .int .i64 t, .int .i64 l, .int .i64 se, .int .i64 fr, .int .i64 sh, .int .i64 R]] #[])) (c1 : w.cell? ⟨bl, 0, none⟩ = some (.int .i64 lo))
    (h1 : -1000000 ≤ lo ∧ lo ≤ 1000000) (h2 : n ≤ 1000000) (hm : m ≤ n) (hl : ∀ t, t < m → p (lo + (t : Int)) = false) (hh : ∀ t, m ≤ t → t < n → p (lo + (t : Int)) = true)
    (hf : ∀ (x : Int) (w1 : World), lo ≤ x → x < lo + n → Below w.heap.size w w1 → Calls Try.prog 64 #[.agg #[.string s, .int .i64 f, .int .i64 t, .int .i64 l, .int .i64 se, .int .i64 fr, .int .i64 sh, .int .i64 R], .int .i64 x] w1 fun e w2 => e = .returned (.bool (p x)) ∧ Below w1.heap.size w1 w2) :
    Calls Try.prog 72 #[.int .i64 (n : Int), .func (.func 73) #[] #[.pointer (some ⟨bf, 0, none⟩), .pointer (some ⟨bl, 0, none⟩)]] w fun e w2 => e = .returned (.int .i64 (m : Int)) ∧ Below w.heap.size w w2 := by
  have HF := Lib.hid hf
  have HL := Lib.hid hl
  have HH := Lib.hid hh
  have C0 := Lib.hid c0
  have C1 := Lib.hid c1
  clear hf hl hh c0 c1
  go_enter Try.func72, Try.ntmps72
  go_wp2
  go_loopw [5, 6] (fun x y wr => ∃ a b : Nat, x = .int .i64 a ∧ y = .int .i64 b ∧ (a ≤ m ∧ m ≤ b) ∧ b ≤ n ∧ Below w.heap.size w wr) (fun x y wr => (intOf y).toNat - (intOf x).toNat)
  case atStart => exact ⟨0, n, rfl, rfl, ⟨by omega, hm⟩, by omega, Below.refl _ _⟩
  case round =>
    obtain ⟨a, b, rfl, rfl, ⟨hab, hmb⟩, hbn, hbel⟩ := hrel
    by_cases hlt : a < b
    · have hc0 := (hbel.cell (World.block_lt_of_cell? _ _ C0.out)).trans C0.out
      have hc1 := (hbel.cell (World.block_lt_of_cell? _ _ C1.out)).trans C1.out
      have hs := stepW s f t l se fr sh R p lo ((a + b) / 2) bf bl wr hc0 hc1 h1 (by omega) (HF.out _ _ (by omega) (by omega) hbel)
      rw [show (((a + b) / 2 : Nat) : Int) = ((a : Int) + (b : Int)) / 2 by omega] at hs
      cases hp : p (lo + ((a : Int) + (b : Int)) / 2)
      · rw [hp] at hs
        have hx : (a + b) / 2 < m := by
          apply Nat.lt_of_not_le; intro hle
          have := HH.out ((a + b) / 2) hle (by omega)
          rw [show (((a + b) / 2 : Nat) : Int) = ((a : Int) + (b : Int)) / 2 by omega, hp] at this
          cases this
        have HS := hide hs
        have HP := Lib.hid hp
        have HB := Lib.hid hbel
        clear hs hp hc0 hc1 hbel
        go_wp2_with (go_at_call 73; refine (unhide HS).mono ?_; rintro e w2 ⟨rfl, hb2⟩)
        go_roundw
        case rel => exact ⟨(a + b) / 2 + 1, b, by rw [show ((a : Int) + (b : Int)) / 2 + 1 = (((a + b) / 2 + 1 : Nat) : Int) by omega], rfl, ⟨by omega, hmb⟩, hbn, HB.out.trans (hb2.mono HB.out.size)⟩
        case measure => simp [intOf]; omega
      · rw [hp] at hs
        have hx : m ≤ (a + b) / 2 := by
          apply Nat.le_of_not_lt; intro hle
          have := HL.out ((a + b) / 2) hle
          rw [show (((a + b) / 2 : Nat) : Int) = ((a : Int) + (b : Int)) / 2 by omega, hp] at this
          cases this
        have HS := hide hs
        have HP := Lib.hid hp
        have HB := Lib.hid hbel
        clear hs hp hc0 hc1 hbel
        go_wp2_with (go_at_call 73; refine (unhide HS).mono ?_; rintro e w2 ⟨rfl, hb2⟩)
        go_roundw
        case rel => exact ⟨a, (a + b) / 2, rfl, by rw [show ((a : Int) + (b : Int)) / 2 = (((a + b) / 2 : Nat) : Int) by omega], ⟨hab, hx⟩, by omega, HB.out.trans (hb2.mono HB.out.size)⟩
        case measure => simp [intOf]; omega
    · obtain rfl : m = a := by omega
      go_wp2
      go_ret
      exact ⟨rfl, hbel⟩
theorem leastW (s : ByteArray) (f t l se fr sh R : Int) (p : Int → Bool) (lo hi : Int) (n m : Nat) (w : World) (h1 : -1000000 ≤ lo ∧ lo ≤ 1000000) (h3 : (n : Int) = hi - lo + 1) (h4 : hi ≤ 900000) (h5 : lo ≤ hi) (h6 : n ≤ 1000000) (hm : m ≤ n)
    (hl : ∀ t, t < m → p (lo + (t : Int)) = false) (hh : ∀ t, m ≤ t → t < n → p (lo + (t : Int)) = true)
    (hf : ∀ (x : Int) (w1 : World), lo ≤ x → x < lo + n → Below w.heap.size w w1 → Calls Try.prog 64 #[.agg #[.string s, .int .i64 f, .int .i64 t, .int .i64 l, .int .i64 se, .int .i64 fr, .int .i64 sh, .int .i64 R], .int .i64 x] w1 fun e w2 => e = .returned (.bool (p x)) ∧ Below w1.heap.size w1 w2) :
    Calls Try.prog 52 #[.int .i64 lo, .int .i64 hi, .func (.func 64) #[.agg #[.string s, .int .i64 f, .int .i64 t, .int .i64 l, .int .i64 se, .int .i64 fr, .int .i64 sh, .int .i64 R]] #[]] w fun e w2 => e = .returned (.int .i64 (lo + (m : Int))) ∧ Below w.heap.size w w2 := by
  have HF := Lib.hid hf
  have HL := Lib.hid hl
  have HH := Lib.hid hh
  clear hf hl hh
  have e3 : hi - lo + 1 = (n : Int) := h3.symm
  have H3 := Lib.hid e3
  clear e3
  go_enter Try.func52, Try.ntmps52
  go_wp2_with fail
  rw [H3.out]
  have hB2 : Below w.heap.size w ((w.alloc (.cells #[.int .i64 lo] 2)).alloc (.cells #[.func (.func 64) #[.agg #[.string s, .int .i64 f, .int .i64 t, .int .i64 l, .int .i64 se, .int .i64 fr, .int .i64 sh, .int .i64 R]] #[]] 44)) := (below_box _ _).alloc (by simp) _
  have hz : w.heap.size + 1 < ((w.alloc (.cells #[.int .i64 lo] 2)).alloc (.cells #[.func (.func 64) #[.agg #[.string s, .int .i64 f, .int .i64 t, .int .i64 l, .int .i64 se, .int .i64 fr, .int .i64 sh, .int .i64 R]] #[]] 44)).heap.size := by simp
  refine (searchW s f t l se fr sh R p lo n m (w.heap.size + 1) w.heap.size _ (by simp) (by simp) h1 h6 hm HL.out HH.out (fun x w1 hx1 hx2 hb => HF.out x w1 hx1 hx2 (hB2.trans (hb.mono hB2.size)))).mono ?_
  rintro e w2 ⟨rfl, hb⟩
  obtain ⟨hc, hfz⟩ := bcell hb
  have HN := Lib.hid hB2
  have HZ := Lib.hid hz
  clear hB2
  go_wp2
  go_ret
  exact ⟨rfl, HN.out.trans (hb.mono HN.out.size)⟩
/-- What WidenFor returns. -/
def wiA (s : ByteArray) (f t l se fr sh : Int) (R : Int) : Int := if awOk s f t l se fr sh then (if inB R 1 1000000 then (if wiM l fr sh R < 4951 then 50 + (wiM l fr sh R : Int) else 0) else 0) else 0
def wiB (s : ByteArray) (f t l se fr sh : Int) (R : Int) : Int := if awOk s f t l se fr sh then (if inB R 1 1000000 then (if wiM l fr sh R < 4951 then 0 else 3) else 2) else 1
set_option maxHeartbeats 1000000 in
theorem sWidenFor_any (s : ByteArray) (f t l se fr sh : Int) (R : Int) (w : World) (hs : s.size ≤ maxLen) :
    Calls Try.prog 37 #[.agg #[.string s, .int .i64 f, .int .i64 t, .int .i64 l, .int .i64 se, .int .i64 fr, .int .i64 sh], .int .i64 R] w fun e w' => e = .returned (.tuple #[.int .i64 (wiA s f t l se fr sh R), .int .i64 (wiB s f t l se fr sh R)]) ∧ Below w.heap.size w w' := by
  cases hok : awOk s f t l se fr sh
  · have HE := Lib.hid (show wiA s f t l se fr sh R = 0 ∧ wiB s f t l se fr sh R = 1 by simp [wiA, wiB, hok])
    go_enter Try.func37, Try.ntmps37
    go_wp2_with (first
          | (go_at_call 39; (with_reducible refine (l03Ok_below w.heap.size s f t l se fr sh (w.alloc (.cells #[.string s, .int .i64 f, .int .i64 t, .int .i64 l, .int .i64 se, .int .i64 fr, .int .i64 sh] 26)) hs (boxed s f t l se fr sh w)).mono ?_); rintro e w1 ⟨rfl, hd1⟩; have hb1 := hd1; obtain ⟨hc1, hf1⟩ := bcell hb1; have hz1 : w.heap.size < w1.heap.size := Nat.lt_of_lt_of_le (by first | (simp; done) | (simp; omega)) hb1.size; clear hd1))
    go_ret2
    exact ⟨ret_two HE.out.1.symm HE.out.2.symm, (show Below w.heap.size w w1 from (below_box _ _).trans (hb1.mono (by simp)))⟩
  · have HOK := Lib.hid hok
    cases hq : inB R 1 1000000
    · have HE := Lib.hid (show wiA s f t l se fr sh R = 0 ∧ wiB s f t l se fr sh R = 2 by simp [wiA, wiB, hok, hq])
      go_enter Try.func37, Try.ntmps37
      go_wp2_with (first
            | (go_at_call 39; (with_reducible refine (l03Ok_below w.heap.size s f t l se fr sh (w.alloc (.cells #[.string s, .int .i64 f, .int .i64 t, .int .i64 l, .int .i64 se, .int .i64 fr, .int .i64 sh] 26)) hs (boxed s f t l se fr sh w)).mono ?_); rintro e w1 ⟨rfl, hd1⟩; have hb1 := hd1; obtain ⟨hc1, hf1⟩ := bcell hb1; have hz1 : w.heap.size < w1.heap.size := Nat.lt_of_lt_of_le (by first | (simp; done) | (simp; omega)) hb1.size; clear hd1)
            | (go_at_call 44; (with_reducible refine (l03Res_any _ _).mono ?_); rintro e w' ⟨rfl, rfl⟩))
      go_ret2
      exact ⟨ret_two HE.out.1.symm HE.out.2.symm, (show Below w.heap.size w w1 from (below_box _ _).trans (hb1.mono (by simp)))⟩
    · obtain ⟨_, _, h1, h4, h2, h3⟩ := awOk_bd hok
      have hR := inB_iff.1 hq
      have HW := Lib.hid (show wiA s f t l se fr sh R = (if wiM l fr sh R < 4951 then 50 + (wiM l fr sh R : Int) else 0) ∧ wiB s f t l se fr sh R = (if wiM l fr sh R < 4951 then 0 else 3) by simp [wiA, wiB, hok, hq])
      obtain ⟨m1, m2, m3⟩ := wi_spec h1 h2 h3 hR.1
      have M2 := Lib.hid m2
      have M3 := Lib.hid m3
      clear m2 m3
      generalize wiM l fr sh R = m at *
      go_enter Try.func37, Try.ntmps37
      go_wp2_with (first
            | (go_at_call 39; (with_reducible refine (l03Ok_below w.heap.size s f t l se fr sh (w.alloc (.cells #[.string s, .int .i64 f, .int .i64 t, .int .i64 l, .int .i64 se, .int .i64 fr, .int .i64 sh] 26)) hs (boxed s f t l se fr sh w)).mono ?_); rintro e w1 ⟨rfl, hd1⟩; have hb1 := hd1; obtain ⟨hc1, hf1⟩ := bcell hb1; have hz1 : w.heap.size < w1.heap.size := Nat.lt_of_lt_of_le (by first | (simp; done) | (simp; omega)) hb1.size; clear hd1)
            | (go_at_call 44; (with_reducible refine (l03Res_any _ _).mono ?_); rintro e w' ⟨rfl, rfl⟩))
      have HB := Lib.hid hb1
      have HC := Lib.hid ((boxed s f t l se fr sh w).below hb1 (by simp))
      clear hb1 hc1 hf1
      obtain ⟨C, hC⟩ : ∃ C : Int, 5001 ≤ C := ⟨5001, Int.le_refl _⟩
      go_loopw [6] (fun x wr => ∃ k : Nat, x = .int .i64 (50 + (k : Int)) ∧ k ≤ m ∧ k ≤ 4951 ∧ Hid (Below (w.alloc (.cells #[.string s, .int .i64 f, .int .i64 t, .int .i64 l, .int .i64 se, .int .i64 fr, .int .i64 sh] 26)).heap.size (w.alloc (.cells #[.string s, .int .i64 f, .int .i64 t, .int .i64 l, .int .i64 se, .int .i64 fr, .int .i64 sh] 26)) wr ∧ AwAt wr w.heap.size s f t l se fr sh ∧ w.heap.size < wr.heap.size)) (fun x wr => (C - intOf x).toNat)
      case atStart => exact ⟨0, rfl, by omega, by omega, Lib.hid ⟨HB.out, HC.out, hz1⟩⟩
      case round =>
        obtain ⟨k, rfl, hk, hk2, H⟩ := hrel
        by_cases hlt : k < 4951
        · by_cases hm : k < m
          · have hq2 := M2.out k hm
            go_wp2_with (go_at_call 63; (with_reducible refine (l03Raw_below w.heap.size s f t l se fr sh (50 + (k : Int)) wr H.out.2.1 h1 h2 h3 (by omega)).mono ?_); rintro e w2 ⟨rfl, hb2⟩)
            go_roundw
            case rel => exact ⟨k + 1, by rw [show 50 + (k : Int) + 1 = 50 + ((k + 1 : Nat) : Int) by omega], by omega, by omega, Lib.hid ⟨H.out.1.trans (hb2.mono H.out.1.size), H.out.2.1.below hb2 H.out.2.2, Nat.lt_of_lt_of_le H.out.2.2 hb2.size⟩⟩
            case measure =>
              have hx : 50 + (k : Int) < C := by omega
              clear hlt hk2 m1 hC
              simp [intOf]; omega
          · obtain rfl : m = k := by omega
            have hq2 := M3.out m (Nat.le_refl _) (by omega)
            have HE := Lib.hid (show wiA s f t l se fr sh R = 50 + (m : Int) ∧ wiB s f t l se fr sh R = 0 by rw [HW.out.1, HW.out.2, if_pos hlt, if_pos hlt]; exact ⟨rfl, rfl⟩)
            go_wp2_with (go_at_call 63; (with_reducible refine (l03Raw_below w.heap.size s f t l se fr sh (50 + (m : Int)) wr H.out.2.1 h1 h2 h3 (by omega)).mono ?_); rintro e w2 ⟨rfl, hb2⟩)
            go_ret2
            exact ⟨ret_two HE.out.1.symm HE.out.2.symm, (below_box _ _).trans ((H.out.1.trans (hb2.mono H.out.1.size)).mono (by simp))⟩
        · have HE := Lib.hid (show wiA s f t l se fr sh R = 0 ∧ wiB s f t l se fr sh R = 3 by rw [HW.out.1, HW.out.2, if_neg (by omega), if_neg (by omega)]; exact ⟨rfl, rfl⟩)
          go_wp2
          go_ret2
          exact ⟨ret_two HE.out.1.symm HE.out.2.symm, (below_box _ _).trans (H.out.1.mono (by simp))⟩
set_option maxHeartbeats 1000000 in
theorem iWidenFor_any (s : ByteArray) (f t l se fr sh : Int) (R : Int) (w : World) (hs : s.size ≤ maxLen) :
    Calls Try.prog 38 #[.agg #[.string s, .int .i64 f, .int .i64 t, .int .i64 l, .int .i64 se, .int .i64 fr, .int .i64 sh], .int .i64 R] w fun e w' => e = .returned (.tuple #[.int .i64 (wiA s f t l se fr sh R), .int .i64 (wiB s f t l se fr sh R)]) ∧ Below w.heap.size w w' := by
  cases hok : awOk s f t l se fr sh
  · have HE := Lib.hid (show wiA s f t l se fr sh R = 0 ∧ wiB s f t l se fr sh R = 1 by simp [wiA, wiB, hok])
    go_enter Try.func38, Try.ntmps38
    go_wp2_with (first
          | (go_at_call 17; (with_reducible refine (iValidAirway_any s f t l se fr sh (w.alloc (.cells #[.string s, .int .i64 f, .int .i64 t, .int .i64 l, .int .i64 se, .int .i64 fr, .int .i64 sh] 26)) hs).mono ?_); rintro e w1 ⟨rfl, hd1⟩; have hb1 := hd1; obtain ⟨hc1, hf1⟩ := bcell hb1; have hz1 : w.heap.size < w1.heap.size := Nat.lt_of_lt_of_le (by first | (simp; done) | (simp; omega)) hb1.size; clear hd1))
    go_ret2
    exact ⟨ret_two HE.out.1.symm HE.out.2.symm, (show Below w.heap.size w w1 from (below_box _ _).trans (hb1.mono (by simp)))⟩
  · have HOK := Lib.hid hok
    cases hq : inB R 1 1000000
    · have HE := Lib.hid (show wiA s f t l se fr sh R = 0 ∧ wiB s f t l se fr sh R = 2 by simp [wiA, wiB, hok, hq])
      go_enter Try.func38, Try.ntmps38
      go_wp2_with (first
            | (go_at_call 17; (with_reducible refine (iValidAirway_any s f t l se fr sh (w.alloc (.cells #[.string s, .int .i64 f, .int .i64 t, .int .i64 l, .int .i64 se, .int .i64 fr, .int .i64 sh] 26)) hs).mono ?_); rintro e w1 ⟨rfl, hd1⟩; have hb1 := hd1; obtain ⟨hc1, hf1⟩ := bcell hb1; have hz1 : w.heap.size < w1.heap.size := Nat.lt_of_lt_of_le (by first | (simp; done) | (simp; omega)) hb1.size; clear hd1)
            | (go_at_call 47; (with_reducible refine (isResistance_any _ _).mono ?_); rintro e w' ⟨rfl, rfl⟩))
      go_ret2
      exact ⟨ret_two HE.out.1.symm HE.out.2.symm, (show Below w.heap.size w w1 from (below_box _ _).trans (hb1.mono (by simp)))⟩
    · obtain ⟨_, _, h1, h4, h2, h3⟩ := awOk_bd hok
      have hR := inB_iff.1 hq
      have HW := Lib.hid (show wiA s f t l se fr sh R = (if wiM l fr sh R < 4951 then 50 + (wiM l fr sh R : Int) else 0) ∧ wiB s f t l se fr sh R = (if wiM l fr sh R < 4951 then 0 else 3) by simp [wiA, wiB, hok, hq])
      obtain ⟨m1, m2, m3⟩ := wi_spec h1 h2 h3 hR.1
      have M2 := Lib.hid (show ∀ t : Nat, t < wiM l fr sh R → decide (max1 (rawR l fr sh (50 + (t : Int))) ≤ R) = false from fun t ht => by have := m2 t ht; simp only [decide_eq_false_iff_not, max1_le hR.1]; omega)
      have M3 := Lib.hid (show ∀ t : Nat, wiM l fr sh R ≤ t → t < 4951 → decide (max1 (rawR l fr sh (50 + (t : Int))) ≤ R) = true from fun t a b => by have := m3 t a b; simp only [decide_eq_true_eq, max1_le hR.1]; exact this)
      clear m2 m3
      generalize wiM l fr sh R = m at *
      by_cases hm : m < 4951
      · have HE := Lib.hid (show wiA s f t l se fr sh R = 50 + (m : Int) ∧ wiB s f t l se fr sh R = 0 by rw [HW.out.1, HW.out.2, if_pos hm, if_pos hm]; exact ⟨rfl, rfl⟩)
        go_enter Try.func38, Try.ntmps38
        go_wp2_with (first
              | (go_at_call 17; (with_reducible refine (iValidAirway_any s f t l se fr sh (w.alloc (.cells #[.string s, .int .i64 f, .int .i64 t, .int .i64 l, .int .i64 se, .int .i64 fr, .int .i64 sh] 26)) hs).mono ?_); rintro e w1 ⟨rfl, hd1⟩; have hb1 := hd1; obtain ⟨hc1, hf1⟩ := bcell hb1; have hz1 : w.heap.size < w1.heap.size := Nat.lt_of_lt_of_le (by first | (simp; done) | (simp; omega)) hb1.size; have hx1 := Below.alloc hb1 hb1.size (.cells #[.string s, .int .i64 f, .int .i64 t, .int .i64 l, .int .i64 se, .int .i64 fr, .int .i64 sh, .int .i64 R] 51); clear hd1)
              | (go_at_call 47; (with_reducible refine (isResistance_any _ _).mono ?_); rintro e w' ⟨rfl, rfl⟩)
              | (go_at_call 52; (with_reducible refine (leastW s f t l se fr sh R (fun x => decide (max1 (rawR l fr sh x) ≤ R)) 50 5000 4951 m (w1.alloc (.cells #[.string s, .int .i64 f, .int .i64 t, .int .i64 l, .int .i64 se, .int .i64 fr, .int .i64 sh, .int .i64 R] 51)) (by omega) (by omega) (by omega) (by omega) (by omega) m1 M2.out M3.out (fun x w2 hx1 hx2 _ => isEnough_any s f t l se fr sh R x w2 HOK.out ⟨hx1, by omega⟩)).mono ?_); rintro e w2 ⟨rfl, hd2⟩; have hb2 := hx1.trans (hd2.mono hx1.size); obtain ⟨hc2, hf2⟩ := bcell hb2; have hz2 : w.heap.size < w2.heap.size := Nat.lt_of_lt_of_le (by first | (simp; done) | (simp; omega)) hb2.size; have hb2_1 := (Below.refl (w1.alloc (.cells #[.string s, .int .i64 f, .int .i64 t, .int .i64 l, .int .i64 se, .int .i64 fr, .int .i64 sh, .int .i64 R] 51)).heap.size (w1.alloc (.cells #[.string s, .int .i64 f, .int .i64 t, .int .i64 l, .int .i64 se, .int .i64 fr, .int .i64 sh, .int .i64 R] 51))).trans (hd2.mono (Below.refl (w1.alloc (.cells #[.string s, .int .i64 f, .int .i64 t, .int .i64 l, .int .i64 se, .int .i64 fr, .int .i64 sh, .int .i64 R] 51)).heap.size (w1.alloc (.cells #[.string s, .int .i64 f, .int .i64 t, .int .i64 l, .int .i64 se, .int .i64 fr, .int .i64 sh, .int .i64 R] 51))).size); obtain ⟨hc2_1, hf2_1⟩ := bcell hb2_1; have hz2_1 : w1.heap.size < w2.heap.size := Nat.lt_of_lt_of_le (by first | (simp; done) | (simp; omega)) hb2_1.size; clear hd2))
        go_ret2
        exact ⟨ret_two HE.out.1.symm HE.out.2.symm, (show Below w.heap.size w w2 from (below_box _ _).trans (hb2.mono (by simp)))⟩
      · have HE := Lib.hid (show wiA s f t l se fr sh R = 0 ∧ wiB s f t l se fr sh R = 3 by rw [HW.out.1, HW.out.2, if_neg hm, if_neg hm]; exact ⟨rfl, rfl⟩)
        go_enter Try.func38, Try.ntmps38
        go_wp2_with (first
              | (go_at_call 17; (with_reducible refine (iValidAirway_any s f t l se fr sh (w.alloc (.cells #[.string s, .int .i64 f, .int .i64 t, .int .i64 l, .int .i64 se, .int .i64 fr, .int .i64 sh] 26)) hs).mono ?_); rintro e w1 ⟨rfl, hd1⟩; have hb1 := hd1; obtain ⟨hc1, hf1⟩ := bcell hb1; have hz1 : w.heap.size < w1.heap.size := Nat.lt_of_lt_of_le (by first | (simp; done) | (simp; omega)) hb1.size; have hx1 := Below.alloc hb1 hb1.size (.cells #[.string s, .int .i64 f, .int .i64 t, .int .i64 l, .int .i64 se, .int .i64 fr, .int .i64 sh, .int .i64 R] 51); clear hd1)
              | (go_at_call 47; (with_reducible refine (isResistance_any _ _).mono ?_); rintro e w' ⟨rfl, rfl⟩)
              | (go_at_call 52; (with_reducible refine (leastW s f t l se fr sh R (fun x => decide (max1 (rawR l fr sh x) ≤ R)) 50 5000 4951 m (w1.alloc (.cells #[.string s, .int .i64 f, .int .i64 t, .int .i64 l, .int .i64 se, .int .i64 fr, .int .i64 sh, .int .i64 R] 51)) (by omega) (by omega) (by omega) (by omega) (by omega) m1 M2.out M3.out (fun x w2 hx1 hx2 _ => isEnough_any s f t l se fr sh R x w2 HOK.out ⟨hx1, by omega⟩)).mono ?_); rintro e w2 ⟨rfl, hd2⟩; have hb2 := hx1.trans (hd2.mono hx1.size); obtain ⟨hc2, hf2⟩ := bcell hb2; have hz2 : w.heap.size < w2.heap.size := Nat.lt_of_lt_of_le (by first | (simp; done) | (simp; omega)) hb2.size; have hb2_1 := (Below.refl (w1.alloc (.cells #[.string s, .int .i64 f, .int .i64 t, .int .i64 l, .int .i64 se, .int .i64 fr, .int .i64 sh, .int .i64 R] 51)).heap.size (w1.alloc (.cells #[.string s, .int .i64 f, .int .i64 t, .int .i64 l, .int .i64 se, .int .i64 fr, .int .i64 sh, .int .i64 R] 51))).trans (hd2.mono (Below.refl (w1.alloc (.cells #[.string s, .int .i64 f, .int .i64 t, .int .i64 l, .int .i64 se, .int .i64 fr, .int .i64 sh, .int .i64 R] 51)).heap.size (w1.alloc (.cells #[.string s, .int .i64 f, .int .i64 t, .int .i64 l, .int .i64 se, .int .i64 fr, .int .i64 sh, .int .i64 R] 51))).size); obtain ⟨hc2_1, hf2_1⟩ := bcell hb2_1; have hz2_1 : w1.heap.size < w2.heap.size := Nat.lt_of_lt_of_le (by first | (simp; done) | (simp; omega)) hb2_1.size; clear hd2))
        go_ret2
        exact ⟨ret_two HE.out.1.symm HE.out.2.symm, (show Below w.heap.size w w2 from (below_box _ _).trans (hb2.mono (by simp)))⟩
end Go.Proofs.Ytkldgmgjbboiaab
