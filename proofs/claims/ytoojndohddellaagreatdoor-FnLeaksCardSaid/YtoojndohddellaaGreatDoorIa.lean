/-
  Contracts of the model's source of draws: what is drawn lies in its range; only the source's own block is written. Conditions: those that each theorem states.
-/
import Derived.Test.YtoojndohddellaaGreatDoorBa
import Derived.Laws.BitsAllLaws
import Derived.Deep.LoopGhost
namespace Go.Proofs.YtoojndohddellaaGreatDoor
open Go.RowKit
set_option linter.unusedVariables false

theorem hide' {p : Prop} (h : p) : Hid p := h
/-- Bytes below B. -/
def BytB (B : Nat) (w : World) (a : Option Addr) (len : Nat) : Prop := len = 0 ∨ ∃ b off, a = some ⟨b, off, none⟩ ∧ b < B ∧ ∀ j, j < len → ∃ n : Int, (0 ≤ n ∧ n ≤ 255) ∧ w.cell? ⟨b, off + j, none⟩ = some (.int .u8 n)
theorem BytB.below {B : Nat} {w w' : World} {a : Option Addr} {len : Nat} (h : BytB B w a len) (hb : Below B w w') : BytB B w' a len := by
  rcases h with h | ⟨b, off, rfl, hB, h⟩
  · exact Or.inl h
  · exact Or.inr ⟨b, off, rfl, hB, fun j hj => by
      obtain ⟨n, hn, hc⟩ := h j hj
      exact ⟨n, hn, (hb.cell hB).trans hc⟩⟩
/-- A source of draws in block b. -/
def SrcB (w : World) (b : Nat) (a : Option Addr) (len cap : Nat) (at' seed : Int) : Prop := w.heap[b]? = some (.cells #[.slice a len cap, .int .i64 at', .int .u64 seed] 62 (0, 0))
theorem SrcB.cells {w : World} {b : Nat} {a : Option Addr} {len cap : Nat} {at' seed : Int} (h : SrcB w b a len cap at' seed) :
    (w.cell? ⟨b, 0, none⟩ = some (.slice a len cap) ∧ w.cell? ⟨b, 1, none⟩ = some (.int .i64 at') ∧ w.cell? ⟨b, 2, none⟩ = some (.int .u64 seed)) ∧ (w.frozen? ⟨b, 1, none⟩ = false ∧ w.frozen? ⟨b, 2, none⟩ = false) ∧ b < w.heap.size := by
  unfold SrcB at h
  refine ⟨⟨by simp [World.cell?, h], by simp [World.cell?, h], by simp [World.cell?, h]⟩, ⟨by simp [World.frozen?, h], by simp [World.frozen?, h]⟩, ?_⟩
  rcases Nat.lt_or_ge b w.heap.size with h' | h'
  · exact h'
  · simp [Array.getElem?_eq_none h'] at h
theorem SrcB.set1 {w : World} {b : Nat} {a : Option Addr} {len cap : Nat} {at' seed : Int} (h : SrcB w b a len cap at' seed) (x : Int) : SrcB (w.setCell ⟨b, 1, none⟩ (.int .i64 x)) b a len cap x seed := by
  have hlt := h.cells.2.2
  unfold SrcB at h ⊢
  have h' : w.heap[b] = .cells #[.slice a len cap, .int .i64 at', .int .u64 seed] 62 (0, 0) := by simpa [Array.getElem?_eq_getElem hlt] using h
  show (w.heap.modify b _)[b]? = _
  rw [Array.getElem?_eq_getElem (by simpa using hlt), Array.getElem_modify_self, h']
  rfl
theorem SrcB.set2 {w : World} {b : Nat} {a : Option Addr} {len cap : Nat} {at' seed : Int} (h : SrcB w b a len cap at' seed) (x : Int) : SrcB (w.setCell ⟨b, 2, none⟩ (.int .u64 x)) b a len cap at' x := by
  have hlt := h.cells.2.2
  unfold SrcB at h ⊢
  have h' : w.heap[b] = .cells #[.slice a len cap, .int .i64 at', .int .u64 seed] 62 (0, 0) := by simpa [Array.getElem?_eq_getElem hlt] using h
  show (w.heap.modify b _)[b]? = _
  rw [Array.getElem?_eq_getElem (by simpa using hlt), Array.getElem_modify_self, h']
  rfl
/-- What lies elsewhere stays. -/
def Oth (b : Nat) (w w' : World) : Prop := ∀ k, k < w.heap.size → k ≠ b → w'.heap[k]? = w.heap[k]?
theorem Oth.trans {b : Nat} {w w1 w2 : World} (h : Oth b w w1) (h2 : Oth b w1 w2) (hz : w.heap.size ≤ w1.heap.size) : Oth b w w2 := fun k hk hb => (h2 k (Nat.lt_of_lt_of_le hk hz) hb).trans (h k hk hb)
theorem Oth.two (b : Nat) (w : World) (n m : Nat) (x y : Value) : Oth b w ((((w.drewN n).setCell ⟨b, 1, none⟩ x).setCell ⟨b, 2, none⟩ y).drewN m) := fun k hk hb =>
  (Below.heap_setCell _ ⟨b, 2, none⟩ y k hb).trans (Below.heap_setCell _ ⟨b, 1, none⟩ x k hb)
/-- A number from lo to hi was drawn. -/
def Drew (lo hi : Int) (B b : Nat) (a : Option Addr) (len cap : Nat) (top : Int) (w : World) (e : Ending) (w' : World) : Prop :=
  ∃ x at' seed : Int, (lo ≤ x ∧ x ≤ hi) ∧ (0 ≤ at' ∧ at' ≤ top) ∧ (0 ≤ seed ∧ seed ≤ 18446744073709551615) ∧ e = .returned (.int .i64 x) ∧ SrcB w' b a len cap at' seed ∧ Below B w w' ∧ Oth b w w'
theorem u64_wrap_bd (x : Int) : 0 ≤ IntKind.u64.wrap x ∧ IntKind.u64.wrap x ≤ 18446744073709551615 := by
  have e : IntKind.u64.wrap x = x % 18446744073709551616 := by simp [IntKind.wrap, IntKind.bits, IntKind.signed]
  rw [e]; omega
theorem and255_bd (x : Int) (h1 : 0 ≤ x) (h2 : x < 18446744073709551616) : 0 ≤ bits .and .u64 x 255 ∧ bits .and .u64 x 255 ≤ 255 := by
  rw [u64_and x 255 h1 h2 (by omega) (by omega)]
  have := Nat.and_le_right (n := x.toNat) (m := (255 : Int).toNat)
  omega
theorem below_dr {B : Nat} {a w : World} (h : Below B a w) (n : Nat) : Below B a (w.drewN n) := ⟨h.os, h.tape, h.output, h.size, h.block⟩
theorem SrcB.drew {w : World} {b : Nat} {a : Option Addr} {len cap : Nat} {at' seed : Int} (h : SrcB w b a len cap at' seed) (n : Nat) : SrcB (w.drewN n) b a len cap at' seed := h
set_option maxHeartbeats 1000000 in
theorem next_any (B b : Nat) (a : Option Addr) (len cap : Nat) (at' seed top : Int) (w : World) (hs : SrcB w b a len cap at' seed) (hB : B ≤ b) (hy : BytB B w a len) (hl : len ≤ 1048576) (h1 : 0 ≤ at' ∧ at' ≤ top) (ht : top ≤ 1000000) (h2 : 0 ≤ seed ∧ seed ≤ 18446744073709551615) :
    Calls Tryz.prog 54 #[.pointer (some ⟨b, 0, none⟩)] w (Drew 0 255 B b a len cap (top + 1) w) := by
  have HS := Lib.hid hs
  obtain ⟨⟨c0, c1, c2⟩, ⟨f1, f2⟩, hz⟩ := hs.cells
  have s1 : (w.cell? ⟨b, 1, none⟩).isSome = true := by rw [c1]; rfl
  have s2 : (w.cell? ⟨b, 2, none⟩).isSome = true := by rw [c2]; rfl
  clear hs
  by_cases h : at' < (len : Int)
  · rcases hy with h0 | ⟨cb, off, rfl, hcb, hc⟩
    · omega
    · obtain ⟨n, hn, hcell⟩ := hc at'.toNat (by omega)
      have hne : cb ≠ b := by omega
      clear hc
      have e1 : at' + 1 ≤ (len : Int) := by omega
      have e2 : IntKind.i64.wrap (at' + 1) = at' + 1 := IntWalk.i64_in _ (by omega)
      go_enter Tryz.func54, Tryz.ntmps54
      go_wp2
      go_quiet (fail)
      go_wp2
      go_quiet (fail)
      go_wp2
      go_quiet (fail)
      go_wp2
      go_ret
      exact ⟨n, at' + 1, _, hn, ⟨by omega, by omega⟩, u64_wrap_bd _, rfl, (SrcB.drew (SrcB.set2 (SrcB.set1 (SrcB.drew HS.out _) _) _) _), below_dr (Below.setCell (Below.setCell (below_dr (Below.refl _ _) _) (show B ≤ b from hB) _) (show B ≤ b from hB) _) _, Oth.two b w _ _ _ _⟩
  · have e1 : ¬ at' + 1 ≤ (len : Int) := by omega
    have e2 : IntKind.i64.wrap (at' + 1) = at' + 1 := IntWalk.i64_in _ (by omega)
    clear hy
    go_enter Tryz.func54, Tryz.ntmps54
    go_wp2
    go_quiet (fail)
    go_wp2
    go_quiet (fail)
    go_wp2
    go_ret
    have hw := u64_wrap_bd (IntKind.u64.wrap (IntKind.u64.wrap (seed * 6364136223846793005)) + 1442695040888963407)
    have hq := and255_bd (IntKind.u64.wrap (IntKind.u64.wrap (IntKind.u64.wrap (seed * 6364136223846793005)) + 1442695040888963407) / 1099511627776) (by omega) (by omega)
    exact ⟨_, at' + 1, _, hq, ⟨by omega, by omega⟩, hw, ret_int (IntWalk.wrap64_in _ (by omega)), (SrcB.drew (SrcB.set2 (SrcB.set1 (SrcB.drew HS.out _) _) _) _), below_dr (Below.setCell (Below.setCell (below_dr (Below.refl _ _) _) (show B ≤ b from hB) _) (show B ≤ b from hB) _) _, Oth.two b w _ _ _ _⟩
set_option maxHeartbeats 1000000 in
theorem pick_any (n : Int) (hn : 2 ≤ n ∧ n ≤ 100000) (B b : Nat) (a : Option Addr) (len cap : Nat) (at' seed top : Int) (w : World) (hs : SrcB w b a len cap at' seed) (hB : B ≤ b) (hy : BytB B w a len) (hl : len ≤ 1048576) (h1 : 0 ≤ at' ∧ at' ≤ top) (ht : top ≤ 900000) (h2 : 0 ≤ seed ∧ seed ≤ 18446744073709551615) :
    Calls Tryz.prog 40 #[.pointer (some ⟨b, 0, none⟩), .int .i64 n] w (Drew 0 (n - 1) B b a len cap (top + 2) w) := by
  have HS := Lib.hid hs
  have HY := Lib.hid hy
  clear hs hy
  by_cases h : 200 < n
  · go_enter Tryz.func40, Tryz.ntmps40
    go_wp2_with fail
    refine (next_any B b a len cap at' seed top w HS.out hB HY.out hl h1 (by omega) h2).mono ?_
    rintro e w1 ⟨x, at1, seed1, hx, ha1, hs1, rfl, hS1, hB1, hO1⟩
    have HS1 := Lib.hid hS1
    have HB1 := Lib.hid hB1
    have HO1 := Lib.hid hO1
    clear hS1 hB1 hO1
    go_wp2_with fail
    refine (next_any B b a len cap at1 seed1 (top + 1) w1 HS1.out hB (HY.out.below HB1.out) hl ha1 (by omega) hs1).mono ?_
    rintro e w2 ⟨y, at2, seed2, hy2, ha2, hs2, rfl, hS2, hB2, hO2⟩
    have HS2 := Lib.hid hS2
    have HB2 := Lib.hid hB2
    have HO2 := Lib.hid hO2
    clear hS2 hB2 hO2
    have m1 : 0 ≤ (x * 256 + y) % n := Int.emod_nonneg _ (by omega)
    have m2 : (x * 256 + y) % n < n := Int.emod_lt_of_pos _ (by omega)
    go_wp2
    go_ret
    exact ⟨_, at2, seed2, ⟨m1, by omega⟩, ⟨ha2.1, by omega⟩, hs2, rfl, HS2.out, HB1.out.trans HB2.out, HO1.out.trans HO2.out HB1.out.size⟩
  · go_enter Tryz.func40, Tryz.ntmps40
    go_wp2_with fail
    refine (next_any B b a len cap at' seed top w HS.out hB HY.out hl h1 (by omega) h2).mono ?_
    rintro e w1 ⟨x, at1, seed1, hx, ha1, hs1, rfl, hS1, hB1, hO1⟩
    have HS1 := Lib.hid hS1
    have HB1 := Lib.hid hB1
    have HO1 := Lib.hid hO1
    clear hS1 hB1 hO1
    have m1 : 0 ≤ x % n := Int.emod_nonneg _ (by omega)
    have m2 : x % n < n := Int.emod_lt_of_pos _ (by omega)
    go_wp2
    go_ret
    exact ⟨_, at1, seed1, ⟨m1, by omega⟩, ⟨ha1.1, by omega⟩, hs1, rfl, HS1.out, HB1.out, HO1.out⟩
/-- It was said yes or no. -/
def DrewB (B b : Nat) (a : Option Addr) (len cap : Nat) (top : Int) (w : World) (e : Ending) (w' : World) : Prop :=
  ∃ (v : Bool) (at' seed : Int), (0 ≤ at' ∧ at' ≤ top) ∧ (0 ≤ seed ∧ seed ≤ 18446744073709551615) ∧ e = .returned (.bool v) ∧ SrcB w' b a len cap at' seed ∧ Below B w w' ∧ Oth b w w'
set_option maxHeartbeats 1000000 in
theorem among_any (lo hi : Int) (xs : List Int) (c2 lb : Nat) (hx : ∀ y ∈ xs, lo ≤ y ∧ y ≤ hi) (hn : 2 ≤ xs.length ∧ xs.length ≤ 1000) (B b : Nat) (a : Option Addr) (len cap : Nat) (at' seed top : Int) (w : World) (hs : SrcB w b a len cap at' seed) (hB : B ≤ b) (hy : BytB B w a len) (hl : len ≤ 1048576) (h1 : 0 ≤ at' ∧ at' ≤ top) (ht : top ≤ 900000) (h2 : 0 ≤ seed ∧ seed ≤ 18446744073709551615) (hlb : lb ≠ b)
    (hr : ∀ j, j < xs.length → w.cell? ⟨lb, j, none⟩ = some (.int .i64 (xs.getD j 0))) (hlB : lb < w.heap.size) :
    Calls Tryz.prog 41 #[.pointer (some ⟨b, 0, none⟩), .slice (some ⟨lb, 0, none⟩) xs.length c2] w (Drew lo hi B b a len cap (top + 2) w) := by
  have HS := Lib.hid hs
  have HY := Lib.hid hy
  have HR := Lib.hid hr
  have HX := Lib.hid hx
  clear hs hy hr hx
  go_enter Tryz.func41, Tryz.ntmps41
  go_wp2_with fail
  refine (pick_any (xs.length : Int) (by omega) B b a len cap at' seed top w HS.out hB HY.out hl h1 ht h2).mono ?_
  rintro e w1 ⟨x, at1, seed1, hx, ha1, hs1, rfl, hS1, hB1, hO1⟩
  have hj : x.toNat < xs.length := by omega
  have hc : w1.cell? ⟨lb, x.toNat, none⟩ = some (.int .i64 (xs.getD x.toNat 0)) := by
    rw [← HR.out x.toNat hj]
    exact World.cell?_of_block (hO1 lb hlB hlb)
  have hin := HX.out (xs.getD x.toNat 0) (by rw [List.getD_eq_getElem?_getD, List.getElem?_eq_getElem hj]; exact List.getElem_mem hj)
  generalize xs.getD x.toNat 0 = y at *
  have t1 : x < (xs.length : Int) := by omega
  have HS1 := Lib.hid hS1
  have HB1 := Lib.hid hB1
  have HO1 := Lib.hid hO1
  clear hS1 hB1 hO1
  go_wp2
  go_ret
  exact ⟨y, at1, seed1, hin, ⟨ha1.1, by omega⟩, hs1, rfl, HS1.out, HB1.out, HO1.out⟩
end Go.Proofs.YtoojndohddellaaGreatDoor
