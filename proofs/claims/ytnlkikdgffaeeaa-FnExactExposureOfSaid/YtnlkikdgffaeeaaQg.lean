/-
  Contracts of chapter 14: the dust during a span, exposures; the model's and the program's. Conditions: those that each theorem states.
-/
import Derived.Test.YtnlkikdgffaeeaaQf
namespace Go.Proofs.Ytnlkikdgffaeeaa
open Go.RowKit
set_option linter.unusedVariables false
set_option linter.unusedSimpArgs false

/-- The dust at each of n minutes from f on, and their sum. -/
def duF (ts : List Tk) (a f : Int) (i : Nat) : Int := daS ts a (f + (i : Int))
def duL (ts : List Tk) (a f : Int) (n : Nat) : List Int := (List.range n).map (duF ts a f)
def exS (ts : List Tk) (a f : Int) (n : Nat) : Int := sumK (duF ts a f) n
theorem duL_len (ts : List Tk) (a f : Int) (n : Nat) : (duL ts a f n).length = n := by simp [duL]
theorem duF_bd {ts : List Tk} (h : tsOk ts = true) (a f : Int) (i : Nat) : 0 ≤ duF ts a f i ∧ duF ts a f i ≤ 12000000 := daS_bd h a _
theorem exS_bd {ts : List Tk} (h : tsOk ts = true) (a f : Int) {n : Nat} (hn : n ≤ 1440) : 0 ≤ exS ts a f n ∧ exS ts a f n ≤ 17280000000 := by
  have := sumK_bd (fun k (_ : k < n) => duF_bd h a f k) n (Nat.le_refl _)
  unfold exS
  omega
theorem exS_part {ts : List Tk} (h : tsOk ts = true) (a f : Int) {n : Nat} (hn : n ≤ 1440) : 0 ≤ sumK (duF ts a f) n ∧ sumK (duF ts a f) n ≤ 17280000000 := exS_bd h a f hn
theorem duL_at {ts : List Tk} {a f : Int} {n k : Nat} (h : k < n) : (duL ts a f n).getD k 0 = duF ts a f k := by simp [duL, List.getD, h]
set_option maxHeartbeats 2000000 in
set_option maxRecDepth 100000 in
theorem during_any (A : Option Addr) (cap : Nat) (ts : List Tk) (aw fr un : Int) (N : Nat) (w : World) (hr : TkR w A ts) (hok : tsOk ts = true) (hf : 0 ≤ fr ∧ fr ≤ 1440) (hun : un = fr + (N : Int)) (hN : N ≤ 1440) :
    Calls Try.prog 73 #[.slice A ts.length cap, .agg #[.int .i64 aw, .int .i64 fr, .int .i64 un]] w fun e w' => ∃ u, e = .returned u ∧ OwnI w' w.heap.size u (duL ts aw fr N) ∧ Below w.heap.size w w' := by
  have h12 := (tsOk_iff.1 hok).2
  have HOK := Lib.hid hok
  have HB0 := Lib.hid (below_box w (.cells #[.int .i64 aw, .int .i64 fr, .int .i64 un] 70))
  have HR := Lib.hid (hr.below HB0.out)
  have HC := Lib.hid (fun (W : World) (h : Below (w.alloc (.cells #[.int .i64 aw, .int .i64 fr, .int .i64 un] 70)).heap.size (w.alloc (.cells #[.int .i64 aw, .int .i64 fr, .int .i64 un] 70)) W) => show W.cell? ⟨w.heap.size, 0, none⟩ = some (.int .i64 aw) ∧ W.cell? ⟨w.heap.size, 1, none⟩ = some (.int .i64 fr) from ⟨(h.cell (by simp)).trans (by simp), (h.cell (by simp)).trans (by simp)⟩)
  have hmk0 := run_make_row' (P := Try.prog) 40 2 (.int .i64 0) 8 Try.underlying40 info_i64 rfl .i64 .i64 N (by omega) (by omega)
  have hsub2 : un - fr = (N : Int) := by omega
  have hmk := hmk0
  rw [← hsub2] at hmk
  clear hmk0 hun
  have HSUB := Lib.hid hsub2
  clear hsub2
  have hub1 := Int.le_of_eq HSUB.out
  have hub2 := Int.le_of_eq HSUB.out.symm
  obtain ⟨f1, f2⟩ := hf
  have hu1 : 0 ≤ un := by omega
  have hu2 : un ≤ 2880 := by omega
  clear hr hok
  go_enter Try.func73, Try.ntmps73
  go_wp2_with fail
  clear hmk
  have hWC : (w.alloc (.cells #[.int .i64 aw, .int .i64 fr, .int .i64 un] 70)).heap.size = w.heap.size + 1 := by simp
  generalize w.alloc (.cells #[.int .i64 aw, .int .i64 fr, .int .i64 un] 70) = WC at *
  go_loopw [18] (fun i wr => ∃ k : Nat, k ≤ N ∧ i = .int .i64 k ∧ Hid (wr.ownsRow w.heap.size 2 1 (.slice (some ⟨w.heap.size + 1, 0, none⟩) N N) N (intsV (fillL N (duF ts aw fr) k))) ∧ Hid (Below WC.heap.size WC wr)) (fun i wr => N - (intOf i).toNat)
  case atStart =>
    refine ⟨0, by omega, rfl, Lib.hid ?_, Lib.hid ((Below.refl _ _).alloc (Nat.le_refl _) _)⟩
    have h := World.ownsRow_lit (base := w.heap.size) (e := 2) (size := 1) WC (madeCells #[.int .i64 0] N) N (by omega) (by unfold maxLen; omega) (by simp [madeCells])
    rw [fillL_made _ (duF ts aw fr), hWC] at h
    exact h
  case round =>
    obtain ⟨k, hk, rfl, HO, HB⟩ := hrel
    obtain ⟨wo, rfl⟩ : ∃ wo : World, wo = wr := ⟨_, rfl⟩
    have hwz := HB.out.size
    by_cases hlt : k < N
    · have k0 := (HC.out wo HB.out).1
      have k1 := (HC.out wo HB.out).2
      have hlI : (k : Int) < un - fr := by omega
      have HX := Lib.hid (show Calls Try.prog 66 #[.slice A ts.length cap, .int .i64 aw, .int .i64 (fr + (k : Int))] wo fun e w' => e = .returned (.int .i64 (duF ts aw fr k)) ∧ Below wo.heap.size wo w' from dustAt_any A cap ts aw (fr + (k : Int)) wo (HR.out.below HB.out) HOK.out)
      have HP := Lib.hid (fillL_put (duF ts aw fr) hlt)
      obtain ⟨z, hz⟩ : ∃ z, duF ts aw fr k = z := ⟨_, rfl⟩
      rw [hz] at HX HP
      clear hz
      go_wp2_with fail
      (with_reducible refine (HX.out).mono ?_)
      rintro e w2 ⟨rfl, hd⟩
      have HO2 := Lib.hid (own_below HO.out hd)
      have HB2 := Lib.hid (HB.out.trans (hd.mono HB.out.size))
      have hw2 := HB2.out.size
      have dz : w2.cell? ⟨w.heap.size + 1, k, none⟩ = some (.int .i64 0) := by rw [HO2.out.cellAt k (by omega), fillL_at _ hlt]
      have fz := HO2.out.frozenAt k
      clear hd
      go_wp2
      go_roundw
      case rel => exact ⟨k + 1, by omega, by go_num, Lib.hid (by
        have h := (HO2.out.stored k (.int .i64 z)).1
        rwa [HP.out] at h), Lib.hid (HB2.out.setCell (by simp; omega) _)⟩
      case measure => simp [intOf]; omega
    · obtain rfl : k = N := by omega
      have HE := Lib.hid (HB0.out.trans (HB.out.mono HB0.out.size))
      have HOE := Lib.hid (show OwnI wo w.heap.size (.slice (some ⟨w.heap.size + 1, 0, none⟩) k k) (duL ts aw fr k) by
        have h := HO.out
        rw [fillL_full] at h
        unfold OwnI
        rw [duL_len]
        exact h)
      clear HO
      go_wp2
      go_ret
      exact ⟨_, rfl, HOE.out, HE.out⟩
set_option maxHeartbeats 1000000 in
set_option maxRecDepth 100000 in
theorem sumId  (A : Option Addr) (cap : Nat) (xs : List Int) (f : Nat → Int) (w : World) (hr : Row .i64 w (.slice A xs.length cap) xs) (hl : xs.length ≤ 1048576)
    (hb : ∀ k, k ≤ xs.length → -4000000000000000000 ≤ sumK f k ∧ sumK f k ≤ 4000000000000000000)
    (hf : ∀ (k : Nat) (w1 : World) (h : k < xs.length), Below w.heap.size w w1 → Calls Try.prog 99 #[.int .i64 xs[k]] w1 fun e w2 => e = .returned (.int .i64 (f k)) ∧ Below w1.heap.size w1 w2) :
    Calls Try.prog 98 #[.slice A xs.length cap, .func (.func 99) #[] #[]] w fun e w' => e = .returned (.int .i64 (sumK f xs.length)) ∧ Below w.heap.size w w' := by
  have HR := Lib.hid hr
  have HF := Lib.hid hf
  have HBD := Lib.hid hb
  clear hr hf hb
  go_enter Try.func98, Try.ntmps98
  go_wp2
  go_loopw [5, 10] (fun t i wr => ∃ k : Nat, k ≤ xs.length ∧ i = .int .i64 k ∧ t = .int .i64 (sumK f k) ∧ Below w.heap.size w wr) (fun t i wr => xs.length - (intOf i).toNat)
  case atStart => exact ⟨0, by omega, rfl, rfl, Below.refl _ _⟩
  case round =>
    obtain ⟨k, hk, rfl, rfl, hbel⟩ := hrel
    have HBL := Lib.hid hbel
    clear hbel
    by_cases hlt : k < xs.length
    · have HX := Lib.hid (fun (w1 : World) (hb : Below wr.heap.size wr w1) => HF.out k w1 hlt (HBL.out.trans (hb.mono HBL.out.size)))
      have hlI : (k : Int) < (xs.length : Int) := by omega
      obtain ⟨b1, b2⟩ := HBD.out k hk
      have hn := HBD.out (k + 1) hlt
      have HN := Lib.hid (show sumK f (k + 1) = sumK f k + f k from rfl)
      rw [HN.out] at hn
      obtain ⟨b3, b4⟩ := hn
      obtain ⟨eb, eo, rfl, -, ec⟩ := Row.cell (HR.out.below HBL.out) hlt
      rw [show xs.getD k 0 = xs[k] by simp [List.getD, hlt]] at ec
      generalize xs[k] = y at *
      generalize f k = z at *
      generalize sumK f k = s at *
      obtain ⟨wo, rfl⟩ : ∃ wo : World, wo = wr := ⟨_, rfl⟩
      go_wp2_with fail
      (with_reducible refine (HX.out _ (Below.refl _ _)).mono ?_)
      rintro e w2 ⟨rfl, hd⟩
      have HB2 := Lib.hid (HBL.out.trans (hd.mono HBL.out.size))
      clear hd
      go_wp2
      go_roundw
      case rel => exact ⟨k + 1, by omega, by go_num, by rw [HN.out], HB2.out⟩
      case measure => simp [intOf]; omega
    · obtain rfl : k = xs.length := by omega
      obtain ⟨s, hs⟩ : ∃ s, sumK f xs.length = s := ⟨_, rfl⟩
      have HS := Lib.hid hs
      rw [hs]
      clear hs
      go_wp2
      go_ret
      exact ⟨ret_int HS.out.symm, HBL.out⟩
theorem sumId_one (x : Int) (w : World) : Calls Try.prog 99 #[.int .i64 x] w fun e w' => e = .returned (.int .i64 x) ∧ Below w.heap.size w w' := by
  go_enter Try.func99, Try.ntmps99
  go_wp2
  go_ret
  exact ⟨rfl, Below.refl _ _⟩
theorem sumOfD_any (v : Value) (xs : List Int) (w : World) (hv : Row .i64 w v xs) (hl : xs.length ≤ 1048576) (hb : ∀ k, k ≤ xs.length → -4000000000000000000 ≤ sumK (fun i => xs.getD i 0) k ∧ sumK (fun i => xs.getD i 0) k ≤ 4000000000000000000) :
    Calls Try.prog 93 #[v] w fun e w' => e = .returned (.int .i64 (sumK (fun i => xs.getD i 0) xs.length)) ∧ Below w.heap.size w w' := by
  obtain ⟨A, cap, rfl⟩ := hv.form
  have HX := Lib.hid (sumId A cap xs (fun i => xs.getD i 0) w hv hl hb (fun k w1 h _ => by
    have h1 := sumId_one xs[k] w1
    rwa [show xs[k] = xs.getD k 0 by simp [List.getD, h]] at h1 ⊢))
  clear hv hb
  go_enter Try.func93, Try.ntmps93
  go_wp2_with fail
  (with_reducible refine (HX.out).mono ?_)
  rintro e w1 ⟨rfl, hd⟩
  go_wp2
  go_ret
  exact ⟨rfl, hd⟩
theorem row_ofOwn {w : World} {B : Nat} {v : Value} {xs : List Int} (h : OwnI w B v xs) : Row .i64 w v xs := by
  rcases h.2 with ⟨rfl, h0⟩ | ⟨g, cap, cur, rfl, hr⟩
  · exact .inl ⟨List.eq_nil_of_length_eq_zero h0, rfl⟩
  · exact Row.of_own h
theorem exposure_any (A : Option Addr) (cap : Nat) (ts : List Tk) (aw fr un : Int) (N : Nat) (w : World) (hr : TkR w A ts) (hok : tsOk ts = true) (hf : 0 ≤ fr ∧ fr ≤ 1440) (hun : un = fr + (N : Int)) (hN : N ≤ 1440) :
    Calls Try.prog 72 #[.slice A ts.length cap, .agg #[.int .i64 aw, .int .i64 fr, .int .i64 un]] w fun e w' => e = .returned (.int .i64 (exS ts aw fr N)) ∧ Below w.heap.size w w' := by
  have HB0 := Lib.hid (below_box w (.cells #[.int .i64 aw, .int .i64 fr, .int .i64 un] 70))
  have HX := Lib.hid (during_any A cap ts aw fr un N (w.alloc (.cells #[.int .i64 aw, .int .i64 fr, .int .i64 un] 70)) (hr.below HB0.out) hok hf hun hN)
  have HE := Lib.hid (show ∀ k, k ≤ N → sumK (fun i => (duL ts aw fr N).getD i 0) k = sumK (duF ts aw fr) k from sumK_getD rfl)
  have HBD := Lib.hid (fun k (h : k ≤ N) => exS_part hok aw fr (n := k) (by omega))
  clear hr hun
  go_enter Try.func72, Try.ntmps72
  go_wp2_with fail
  (with_reducible refine (HX.out).mono ?_)
  rintro e w1 ⟨u, rfl, ho, hd⟩
  have HB1 := Lib.hid (HB0.out.trans (hd.mono HB0.out.size))
  have HO := Lib.hid ho
  clear hd ho
  go_wp2_with fail
  (with_reducible refine (sumOfD_any u (duL ts aw fr N) _ (row_ofOwn HO.out) (by rw [duL_len]; omega) (fun k hk => by rw [duL_len] at hk; rw [HE.out k hk]; have := HBD.out k hk; omega)).mono ?_)
  rintro e w2 ⟨rfl, hd⟩
  have HB2 := Lib.hid (HB1.out.trans (hd.mono HB1.out.size))
  clear hd
  have HF := Lib.hid (show sumK (fun i => (duL ts aw fr N).getD i 0) (duL ts aw fr N).length = exS ts aw fr N by rw [duL_len, HE.out N (Nat.le_refl _)]; rfl)
  go_wp2
  go_ret
  exact ⟨ret_int HF.out, HB2.out⟩
end Go.Proofs.Ytnlkikdgffaeeaa
