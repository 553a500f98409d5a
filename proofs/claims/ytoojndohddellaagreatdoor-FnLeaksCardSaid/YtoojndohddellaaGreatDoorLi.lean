/-
  Draws of ducts: what the model draws is a valid duct. Conditions: those that each theorem states.
-/
import Derived.Test.YtoojndohddellaaGreatDoorLa
import Derived.Test.YtoojndohddellaaGreatDoorIa
namespace Go.Proofs.YtoojndohddellaaGreatDoor
open Go.RowKit
set_option linter.unusedVariables false
set_option linter.unusedSimpArgs false

theorem SrcB.alloc {w : World} {b : Nat} {a : Option Addr} {len cap : Nat} {at' seed : Int} (h : SrcB w b a len cap at' seed) (x : Obj) : SrcB (w.alloc x) b a len cap at' seed := by
  have hl := h.cells.2.2
  unfold SrcB at h ⊢
  rw [← h]
  show (w.heap.push x)[b]? = _
  rw [Array.getElem?_push_lt hl, Array.getElem?_eq_getElem hl]
theorem Oth.alloc (b : Nat) (w : World) (x : Obj) : Oth b w (w.alloc x) := fun k hk _ => Below.heap_alloc w x k hk
theorem SrcB.put {w : World} {b : Nat} {a : Option Addr} {len cap : Nat} {at' seed : Int} (h : SrcB w b a len cap at' seed) {p : Addr} (hp : b ≠ p.block) (v : Value) : SrcB (w.setCell p v) b a len cap at' seed := by
  unfold SrcB at h ⊢
  rw [← h]
  exact Below.heap_setCell w p v b hp
theorem Oth.put {b : Nat} {w w1 : World} (h : Oth b w w1) {p : Addr} (hp : w.heap.size ≤ p.block) (v : Value) : Oth b w (w1.setCell p v) := fun k hk hb => (Below.heap_setCell w1 p v k (by omega)).trans (h k hk hb)
theorem Oth.frz {b : Nat} {w w' : World} (h : Oth b w w') {p : Addr} (hb : p.block < w.heap.size) (hp : p.block ≠ b) : w'.frozen? p = w.frozen? p := by
  unfold World.frozen?
  rw [h p.block hb hp]
theorem Oth.cell {b : Nat} {w w' : World} (h : Oth b w w') {p : Addr} {v : Value} (hc : w.cell? p = some v) (hp : p.block ≠ b) : w'.cell? p = some v := (World.cell?_of_block (h p.block (World.block_lt_of_cell? _ _ hc) hp)).trans hc
/-- One of three texts. -/
def DrewT (P : ByteArray → Prop) (B b : Nat) (a : Option Addr) (len cap : Nat) (top : Int) (w : World) (e : Ending) (w' : World) : Prop :=
  ∃ (s : ByteArray) (at' seed : Int), P s ∧ (0 ≤ at' ∧ at' ≤ top) ∧ (0 ≤ seed ∧ seed ≤ 18446744073709551615) ∧ e = .returned (.string s) ∧ SrcB w' b a len cap at' seed ∧ Below B w w' ∧ Oth b w w'
set_option maxHeartbeats 1000000 in
theorem text3_any (P : ByteArray → Prop) (xs : List ByteArray) (hn : xs.length = 3) (hx : ∀ y ∈ xs, P y) (c2 lb : Nat) (B b : Nat) (a : Option Addr) (len cap : Nat) (at' seed top : Int) (w : World) (hs : SrcB w b a len cap at' seed) (hB : B ≤ b) (hy : BytB B w a len) (hl : len ≤ 1048576) (h1 : 0 ≤ at' ∧ at' ≤ top) (ht : top ≤ 800000) (h2 : 0 ≤ seed ∧ seed ≤ 18446744073709551615) (hlb : lb ≠ b)
    (hr : ∀ j, j < xs.length → w.cell? ⟨lb, j, none⟩ = some (.string (xs.getD j ⟨#[]⟩))) (hlB : lb < w.heap.size) :
    Calls Tryz.prog 39 #[.pointer (some ⟨b, 0, none⟩), .slice (some ⟨lb, 0, none⟩) 3 c2] w (DrewT P B b a len cap (top + 2) w) := by
  have HS := Lib.hid hs
  have HY := Lib.hid hy
  have HR := Lib.hid hr
  have HX := Lib.hid hx
  clear hs hy hr hx
  go_enter Tryz.func39, Tryz.ntmps39
  go_wp2_with fail
  refine (pick_any 3 (by omega) B b a len cap at' seed top w HS.out hB HY.out hl h1 (by omega) h2).mono ?_
  rintro e w1 ⟨x, at1, seed1, hx, ha1, hs1, rfl, hS1, hB1, hO1⟩
  have hj : x.toNat < xs.length := by omega
  have hc : w1.cell? ⟨lb, x.toNat, none⟩ = some (.string (xs.getD x.toNat ⟨#[]⟩)) := by
    rw [← HR.out x.toNat hj]
    exact World.cell?_of_block (hO1 lb hlB hlb)
  have hin := HX.out (xs.getD x.toNat ⟨#[]⟩) (by rw [List.getD_eq_getElem?_getD, List.getElem?_eq_getElem hj]; exact List.getElem_mem hj)
  generalize xs.getD x.toNat ⟨#[]⟩ = y at *
  have t1 : x < 3 := by omega
  have HS1 := Lib.hid hS1
  have HB1 := Lib.hid hB1
  have HO1 := Lib.hid hO1
  clear hS1 hB1 hO1
  go_wp2
  go_ret
  exact ⟨y, at1, seed1, hin, ⟨ha1.1, by omega⟩, hs1, rfl, HS1.out, HB1.out, HO1.out⟩
/-- A valid duct was drawn. -/
def DrewD (B b : Nat) (a : Option Addr) (len cap : Nat) (w : World) (e : Ending) (w' : World) : Prop :=
  ∃ (s : ByteArray) (l j lo : Int), (duOk s l j lo = true ∧ s.size ≤ 10) ∧ e = .returned (.agg #[.string s, .int .i64 l, .int .i64 j, .int .i64 lo]) ∧ Below B w w'
theorem nm_d1 : isNm ⟨#[100, 49]⟩ = true := by decide
theorem nm_duct : isNm ⟨#[100, 117, 99, 116]⟩ = true := by decide
theorem nm_east : isNm ⟨#[101, 97, 115, 116]⟩ = true := by decide
set_option maxHeartbeats 2000000 in
set_option maxRecDepth 100000 in
theorem l11Draw_any (B b : Nat) (a : Option Addr) (len cap : Nat) (at' seed top : Int) (w : World) (hs : SrcB w b a len cap at' seed) (hB : B ≤ b) (hy : BytB B w a len) (hl : len ≤ 1048576) (h1 : 0 ≤ at' ∧ at' ≤ top) (ht : top ≤ 800000) (h2 : 0 ≤ seed ∧ seed ≤ 18446744073709551615) :
    Calls Tryz.prog 21 #[.pointer (some ⟨b, 0, none⟩)] w (DrewD B b a len cap w) := by
  have hz0 := hs.cells.2.2
  have HSA := Lib.hid ((hs.alloc (.cells #[.string ⟨#[]⟩, .int .i64 0, .int .i64 0, .int .i64 0] 25)).alloc (.cells #[.string ⟨#[100, 49]⟩, .string ⟨#[100, 117, 99, 116]⟩, .string ⟨#[101, 97, 115, 116]⟩] 9))
  have HBA := Lib.hid (show Below B w ((w.alloc (.cells #[.string ⟨#[]⟩, .int .i64 0, .int .i64 0, .int .i64 0] 25)).alloc (.cells #[.string ⟨#[100, 49]⟩, .string ⟨#[100, 117, 99, 116]⟩, .string ⟨#[101, 97, 115, 116]⟩] 9)) from ((Below.refl _ _).alloc (by omega) _).alloc (by simp; omega) _)
  have HYA := Lib.hid hy
  have HR := Lib.hid (show ∀ j, j < ([⟨#[100, 49]⟩, ⟨#[100, 117, 99, 116]⟩, ⟨#[101, 97, 115, 116]⟩] : List ByteArray).length → ((w.alloc (.cells #[.string ⟨#[]⟩, .int .i64 0, .int .i64 0, .int .i64 0] 25)).alloc (.cells #[.string ⟨#[100, 49]⟩, .string ⟨#[100, 117, 99, 116]⟩, .string ⟨#[101, 97, 115, 116]⟩] 9)).cell? ⟨w.heap.size + 1, j, none⟩ = some (.string (([⟨#[100, 49]⟩, ⟨#[100, 117, 99, 116]⟩, ⟨#[101, 97, 115, 116]⟩] : List ByteArray).getD j ⟨#[]⟩)) from fun j hj => by
    rw [show w.heap.size + 1 = (w.alloc (.cells #[.string ⟨#[]⟩, .int .i64 0, .int .i64 0, .int .i64 0] 25)).heap.size by simp, World.cell?_alloc_new]
    match j, hj with
    | 0, _ | 1, _ | 2, _ => rfl)
  have hzW : w.heap.size + 1 < ((w.alloc (.cells #[.string ⟨#[]⟩, .int .i64 0, .int .i64 0, .int .i64 0] 25)).alloc (.cells #[.string ⟨#[100, 49]⟩, .string ⟨#[100, 117, 99, 116]⟩, .string ⟨#[101, 97, 115, 116]⟩] 9)).heap.size := by simp
  have R0 := Lib.hid (show ∀ j v, ([.string ⟨#[]⟩, .int .i64 0, .int .i64 0, .int .i64 0] : List Value)[j]? = some v → ((w.alloc (.cells #[.string ⟨#[]⟩, .int .i64 0, .int .i64 0, .int .i64 0] 25)).alloc (.cells #[.string ⟨#[100, 49]⟩, .string ⟨#[100, 117, 99, 116]⟩, .string ⟨#[101, 97, 115, 116]⟩] 9)).cell? ⟨w.heap.size, j, none⟩ = some v ∧ ((w.alloc (.cells #[.string ⟨#[]⟩, .int .i64 0, .int .i64 0, .int .i64 0] 25)).alloc (.cells #[.string ⟨#[100, 49]⟩, .string ⟨#[100, 117, 99, 116]⟩, .string ⟨#[101, 97, 115, 116]⟩] 9)).frozen? ⟨w.heap.size, j, none⟩ = false from fun j v hj => by
    match j, hj with
    | 0, hj | 1, hj | 2, hj | 3, hj => (simp at hj; subst hj; exact ⟨by simp, by simp⟩)
    | j + 4, hj => simp at hj)
  clear hs hy
  go_enter Tryz.func21, Tryz.ntmps21
  go_wp2_with fail
  (with_reducible refine (text3_any (fun s => isNm s = true ∧ s.size ≤ 10) [⟨#[100, 49]⟩, ⟨#[100, 117, 99, 116]⟩, ⟨#[101, 97, 115, 116]⟩] rfl (by simp; exact ⟨⟨nm_d1, by decide⟩, ⟨nm_duct, by decide⟩, nm_east, by decide⟩) _ (w.heap.size + 1) B b a len cap at' seed top ((w.alloc (.cells #[.string ⟨#[]⟩, .int .i64 0, .int .i64 0, .int .i64 0] 25)).alloc (.cells #[.string ⟨#[100, 49]⟩, .string ⟨#[100, 117, 99, 116]⟩, .string ⟨#[101, 97, 115, 116]⟩] 9)) HSA.out hB (HYA.out.below HBA.out) hl h1 ht h2 (by omega) HR.out hzW).mono ?_)
  rintro e w1 ⟨s, at1, seed1, hsn, ha1, hs1, rfl, hS1, hB1, hO1⟩
  have HS1 := Lib.hid hS1
  have HB1 := Lib.hid (HBA.out.trans hB1)
  have HO1 := Lib.hid hO1
  have hz1 := hS1.cells.2.2
  have hy1 := hB1.size
  clear hS1 hB1 hO1
  go_wp2_with fail
  (with_reducible refine (pick_any 600 (by omega) B b a len cap at1 seed1 (top + 2) w1 HS1.out hB (HYA.out.below HB1.out) hl ha1 (by omega) hs1).mono ?_)
  rintro e w2 ⟨x2, at2, seed2, hx2, ha2, hs2, rfl, hS2, hB2, hO2⟩
  have HS2 := Lib.hid hS2
  have HB2 := Lib.hid (HB1.out.trans hB2)
  have HO2 := Lib.hid hO2
  have hz2 := hS2.cells.2.2
  have hy2 := hB2.size
  clear hS2 hB2 hO2
  go_wp2_with fail
  have hdb : w2.heap.size ≠ b := by omega
  have HS3 := Lib.hid (HS2.out.alloc (.cells #[.string s, .int .i64 (1 + x2), .int .i64 0, .int .i64 0] 25))
  have HB3 := Lib.hid (show Below B w (w2.alloc (.cells #[.string s, .int .i64 (1 + x2), .int .i64 0, .int .i64 0] 25)) from HB2.out.alloc (by omega) _)
  have C3 := Lib.hid (show ∀ j v, ([.string s, .int .i64 (1 + x2), .int .i64 0, .int .i64 0] : List Value)[j]? = some v → (w2.alloc (.cells #[.string s, .int .i64 (1 + x2), .int .i64 0, .int .i64 0] 25)).cell? ⟨w2.heap.size, j, none⟩ = some v ∧ (w2.alloc (.cells #[.string s, .int .i64 (1 + x2), .int .i64 0, .int .i64 0] 25)).frozen? ⟨w2.heap.size, j, none⟩ = false from fun j v hj => by
    match j, hj with
    | 0, hj | 1, hj | 2, hj | 3, hj => (simp at hj; subst hj; exact ⟨by simp, by simp⟩)
    | j + 4, hj => simp at hj)
  have R3 := Lib.hid (show ∀ j v, ([.string ⟨#[]⟩, .int .i64 0, .int .i64 0, .int .i64 0] : List Value)[j]? = some v → (w2.alloc (.cells #[.string s, .int .i64 (1 + x2), .int .i64 0, .int .i64 0] 25)).cell? ⟨w.heap.size, j, none⟩ = some v ∧ (w2.alloc (.cells #[.string s, .int .i64 (1 + x2), .int .i64 0, .int .i64 0] 25)).frozen? ⟨w.heap.size, j, none⟩ = false from fun j v hj => by
    obtain ⟨hv, h2⟩ := R0.out j v hj
    have c1 := HO1.out.cell hv (by show w.heap.size ≠ b; omega)
    have c2 := HO2.out.cell c1 (by show w.heap.size ≠ b; omega)
    have f1 := (HO1.out.frz (p := ⟨w.heap.size, j, none⟩) (by show w.heap.size < _; omega) (by show w.heap.size ≠ b; omega)).trans h2
    have f2 := (HO2.out.frz (p := ⟨w.heap.size, j, none⟩) (by show w.heap.size < _; omega) (by show w.heap.size ≠ b; omega)).trans f1
    have hne : ¬ (w.heap.size = w2.heap.size) := by omega
    exact ⟨(World.cell?_alloc_old _ _ _ hne).trans c2, by rw [World.frozen?_alloc_old _ _ _ (by omega)]; exact f2⟩)
  have hzD : (w2.alloc (.cells #[.string s, .int .i64 (1 + x2), .int .i64 0, .int .i64 0] 25)).heap.size = w2.heap.size + 1 := by simp
  generalize w2.alloc (.cells #[.string s, .int .i64 (1 + x2), .int .i64 0, .int .i64 0] 25) = W3 at *
  (with_reducible refine (pick_any 46 (by omega) B b a len cap at2 seed2 (top + 2 + 2) W3 HS3.out hB (HYA.out.below HB3.out) hl ha2 (by omega) hs2).mono ?_)
  rintro e w3 ⟨x3, at3, seed3, hx3, ha3, hs3, rfl, hS4, hB4, hO4⟩
  have HS4 := Lib.hid hS4
  have HB4 := Lib.hid (HB3.out.trans hB4)
  have HO4 := Lib.hid hO4
  have hz4 := hS4.cells.2.2
  have hy4 := hB4.size
  clear hS4 hB4 hO4
  have k0 := HO4.out.cell (C3.out 0 _ rfl).1 hdb
  have k1 := HO4.out.cell (C3.out 1 _ rfl).1 hdb
  have k2 := HO4.out.cell (C3.out 2 _ rfl).1 hdb
  have k3 := HO4.out.cell (C3.out 3 _ rfl).1 hdb
  have f2 := (HO4.out.frz (p := ⟨w2.heap.size, 2, none⟩) (by show w2.heap.size < _; omega) hdb).trans (C3.out 2 _ rfl).2
  have f3 := (HO4.out.frz (p := ⟨w2.heap.size, 3, none⟩) (by show w2.heap.size < _; omega) hdb).trans (C3.out 3 _ rfl).2
  go_wp2_with fail
  have HS5 := Lib.hid ((HS4.out.put (p := ⟨w2.heap.size, 2, none⟩) (by show b ≠ w2.heap.size; omega) (.int .i64 (5 + x3))).alloc (.cells #[.int .i64 0, .int .i64 500, .int .i64 2000, .int .i64 5000, .int .i64 20000, .int .i64 100000] 2))
  have HB5 := Lib.hid (show Below B w ((w3.setCell ⟨w2.heap.size, 2, none⟩ (.int .i64 (5 + x3))).alloc (.cells #[.int .i64 0, .int .i64 500, .int .i64 2000, .int .i64 5000, .int .i64 20000, .int .i64 100000] 2)) from (HB4.out.setCell (by show B ≤ w2.heap.size; omega) _).alloc (by simp; omega) _)
  have hz5 : ((w3.setCell ⟨w2.heap.size, 2, none⟩ (.int .i64 (5 + x3))).alloc (.cells #[.int .i64 0, .int .i64 500, .int .i64 2000, .int .i64 5000, .int .i64 20000, .int .i64 100000] 2)).heap.size = w3.heap.size + 1 := by simp
  have hne : ¬ (w2.heap.size = w3.heap.size) := by omega
  have hne0 : ¬ (w.heap.size = w3.heap.size) := by omega
  have hneS : ¬ (w2.heap.size = (w3.setCell ⟨w2.heap.size, 2, none⟩ (.int .i64 (5 + x3))).heap.size) := by rw [World.size_setCell]; exact hne
  have hneS0 : ¬ (w.heap.size = (w3.setCell ⟨w2.heap.size, 2, none⟩ (.int .i64 (5 + x3))).heap.size) := by rw [World.size_setCell]; exact hne0
  have C5 := Lib.hid (show (((w3.setCell ⟨w2.heap.size, 2, none⟩ (.int .i64 (5 + x3))).alloc (.cells #[.int .i64 0, .int .i64 500, .int .i64 2000, .int .i64 5000, .int .i64 20000, .int .i64 100000] 2)).cell? ⟨w2.heap.size, 0, none⟩ = some (.string s) ∧ ((w3.setCell ⟨w2.heap.size, 2, none⟩ (.int .i64 (5 + x3))).alloc (.cells #[.int .i64 0, .int .i64 500, .int .i64 2000, .int .i64 5000, .int .i64 20000, .int .i64 100000] 2)).cell? ⟨w2.heap.size, 1, none⟩ = some (.int .i64 (1 + x2)) ∧ ((w3.setCell ⟨w2.heap.size, 2, none⟩ (.int .i64 (5 + x3))).alloc (.cells #[.int .i64 0, .int .i64 500, .int .i64 2000, .int .i64 5000, .int .i64 20000, .int .i64 100000] 2)).cell? ⟨w2.heap.size, 2, none⟩ = some (.int .i64 (5 + x3)) ∧ ((w3.setCell ⟨w2.heap.size, 2, none⟩ (.int .i64 (5 + x3))).alloc (.cells #[.int .i64 0, .int .i64 500, .int .i64 2000, .int .i64 5000, .int .i64 20000, .int .i64 100000] 2)).cell? ⟨w2.heap.size, 3, none⟩ = some (.int .i64 0)) ∧ ((w3.setCell ⟨w2.heap.size, 2, none⟩ (.int .i64 (5 + x3))).alloc (.cells #[.int .i64 0, .int .i64 500, .int .i64 2000, .int .i64 5000, .int .i64 20000, .int .i64 100000] 2)).frozen? ⟨w2.heap.size, 3, none⟩ = false from
    ⟨⟨(World.cell?_alloc_old _ _ _ hneS).trans ((World.cell?_setCell_other _ _ _ _ (by simp)).trans k0), (World.cell?_alloc_old _ _ _ hneS).trans ((World.cell?_setCell_other _ _ _ _ (by simp)).trans k1), (World.cell?_alloc_old _ _ _ hneS).trans (World.cell?_setCell_same _ _ _ (by rw [k2])), (World.cell?_alloc_old _ _ _ hneS).trans ((World.cell?_setCell_other _ _ _ _ (by simp)).trans k3)⟩, by rw [World.frozen?_alloc_old _ _ _ (by first | (simp; done) | (simp; omega)), World.frozen?_setCell]; exact f3⟩)
  have R5 := Lib.hid (show ∀ j v, ([.string ⟨#[]⟩, .int .i64 0, .int .i64 0, .int .i64 0] : List Value)[j]? = some v → ((w3.setCell ⟨w2.heap.size, 2, none⟩ (.int .i64 (5 + x3))).alloc (.cells #[.int .i64 0, .int .i64 500, .int .i64 2000, .int .i64 5000, .int .i64 20000, .int .i64 100000] 2)).cell? ⟨w.heap.size, j, none⟩ = some v ∧ ((w3.setCell ⟨w2.heap.size, 2, none⟩ (.int .i64 (5 + x3))).alloc (.cells #[.int .i64 0, .int .i64 500, .int .i64 2000, .int .i64 5000, .int .i64 20000, .int .i64 100000] 2)).frozen? ⟨w.heap.size, j, none⟩ = false from fun j v hj => by
    obtain ⟨hv, h2⟩ := R3.out j v hj
    have c1 := HO4.out.cell hv (by show w.heap.size ≠ b; omega)
    have f1 := (HO4.out.frz (p := ⟨w.heap.size, j, none⟩) (by show w.heap.size < _; omega) (by show w.heap.size ≠ b; omega)).trans h2
    have hnd : (⟨w2.heap.size, 2, none⟩ : Addr) ≠ ⟨w.heap.size, j, none⟩ := fun e => by injection e with e; omega
    exact ⟨by rw [World.cell?_alloc_old _ _ _ hneS0, World.cell?_setCell_other _ _ _ _ hnd, c1], by rw [World.frozen?_alloc_old _ _ _ (by simp; omega), World.frozen?_setCell]; exact f1⟩)
  have HR5 := Lib.hid (show ∀ j, j < ([0, 500, 2000, 5000, 20000, 100000] : List Int).length → ((w3.setCell ⟨w2.heap.size, 2, none⟩ (.int .i64 (5 + x3))).alloc (.cells #[.int .i64 0, .int .i64 500, .int .i64 2000, .int .i64 5000, .int .i64 20000, .int .i64 100000] 2)).cell? ⟨w3.heap.size, j, none⟩ = some (.int .i64 (([0, 500, 2000, 5000, 20000, 100000] : List Int).getD j 0)) from fun j hj => by
    rw [show w3.heap.size = (w3.setCell ⟨w2.heap.size, 2, none⟩ (.int .i64 (5 + x3))).heap.size by simp, World.cell?_alloc_new]
    match j, hj with
    | 0, _ | 1, _ | 2, _ | 3, _ | 4, _ | 5, _ => rfl)
  have hzl : w3.heap.size < ((w3.setCell ⟨w2.heap.size, 2, none⟩ (.int .i64 (5 + x3))).alloc (.cells #[.int .i64 0, .int .i64 500, .int .i64 2000, .int .i64 5000, .int .i64 20000, .int .i64 100000] 2)).heap.size := by simp
  clear k0 k1 k2 k3 f2 f3
  generalize ((w3.setCell ⟨w2.heap.size, 2, none⟩ (.int .i64 (5 + x3))).alloc (.cells #[.int .i64 0, .int .i64 500, .int .i64 2000, .int .i64 5000, .int .i64 20000, .int .i64 100000] 2)) = W5 at *
  refine (among_any 0 100000 [0, 500, 2000, 5000, 20000, 100000] 6 w3.heap.size (by simp) (by simp) B b a len cap at3 seed3 (top + 2 + 2 + 2) W5 HS5.out hB (HYA.out.below HB5.out) hl ha3 (by omega) hs3 (by omega) HR5.out hzl).mono ?_
  rintro e w4 ⟨x4, at4, seed4, hx4, ha4, hs4, rfl, hS6, hB6, hO6⟩
  have HS6 := Lib.hid hS6
  have HB6 := Lib.hid (HB5.out.trans hB6)
  have HO6 := Lib.hid hO6
  have hz6 := hS6.cells.2.2
  have hy6 := hB6.size
  clear hS6 hB6 hO6
  have k0 := HO6.out.cell C5.out.1.1 hdb
  have k1 := HO6.out.cell C5.out.1.2.1 hdb
  have k2 := HO6.out.cell C5.out.1.2.2.1 hdb
  have k3 := HO6.out.cell C5.out.1.2.2.2 hdb
  have f3 := (HO6.out.frz (p := ⟨w2.heap.size, 3, none⟩) (by show w2.heap.size < _; omega) hdb).trans C5.out.2
  have RZ : ∀ j v, ([.string ⟨#[]⟩, .int .i64 0, .int .i64 0, .int .i64 0] : List Value)[j]? = some v → w4.cell? ⟨w.heap.size, j, none⟩ = some v ∧ w4.frozen? ⟨w.heap.size, j, none⟩ = false := fun j v hj => by
    obtain ⟨hv, h2⟩ := R5.out j v hj
    exact ⟨HO6.out.cell hv (by show w.heap.size ≠ b; omega), (HO6.out.frz (p := ⟨w.heap.size, j, none⟩) (by show w.heap.size < _; omega) (by show w.heap.size ≠ b; omega)).trans h2⟩
  obtain ⟨m0, g0⟩ := RZ 0 _ rfl
  obtain ⟨m1, g1⟩ := RZ 1 _ rfl
  obtain ⟨m2, g2⟩ := RZ 2 _ rfl
  obtain ⟨m3, g3⟩ := RZ 3 _ rfl
  have hdw : ¬ (w2.heap.size = w.heap.size) := by omega
  have hwd : ¬ (w.heap.size = w2.heap.size) := by omega
  have HOK := Lib.hid (show duOk s (1 + x2) (5 + x3) x4 = true by
    simp only [duOk, Bool.and_eq_true, inB_iff]
    exact ⟨hsn.1, ⟨by omega, by omega⟩, ⟨by omega, by omega⟩, hx4.1, hx4.2⟩)
  go_wp2
  refine bodyPost_ret (v := .agg #[.string s, .int .i64 (1 + x2), .int .i64 (5 + x3), .int .i64 x4]) (by simp [results, Tryz.results21, go_sem, World.cell?_setCell_same', World.cell?_setCell_other, m0, m1, m2, m3]) rfl ⟨s, _, _, _, ⟨HOK.out, hsn.2⟩, rfl, ?_⟩
  have hB6 := HB6.out
  have hBw : B ≤ w.heap.size := by omega
  have hBd : B ≤ w2.heap.size := by omega
  repeat (first | (with_reducible exact hB6) | (with_reducible refine Below.setCell ?_ (by first | exact hBw | exact hBd) _))
theorem BytB.up {B B' : Nat} {w : World} {a : Option Addr} {len : Nat} (h : BytB B w a len) (hB : B ≤ B') : BytB B' w a len := by
  rcases h with h | ⟨b, off, e, hb, h⟩
  · exact .inl h
  · exact .inr ⟨b, off, e, Nat.lt_of_lt_of_le hb hB, h⟩
theorem l00FromD (a : Option Addr) (len cap : Nat) (w : World) :
    Calls Tryz.prog 20 #[.slice a len cap] w fun e w' => e = .returned (.pointer (some ⟨w.heap.size, 0, none⟩)) ∧ w.alloc (.cells #[.slice a len cap, .int .i64 0, .int .u64 0] 62) = w' := by
  go_enter Tryz.func20, Tryz.ntmps20
  go_wp2
  go_ret
  exact ⟨rfl, rfl⟩
theorem SrcB.newD (w : World) (a : Option Addr) (len cap : Nat) : SrcB (w.alloc (.cells #[.slice a len cap, .int .i64 0, .int .u64 0] 62)) w.heap.size a len cap 0 0 := by
  unfold SrcB
  show (w.heap.push _)[w.heap.size]? = _
  simp
set_option maxHeartbeats 2000000 in
theorem R8Duct_any (a : Option Addr) (len cap : Nat) (w : World) (hy : BytB w.heap.size w a len) (hl : len ≤ 1048576) :
    Calls Tryz.prog 5 #[.slice a len cap] w fun e w' => ∃ (s : ByteArray) (l j lo : Int), (duOk s l j lo = true ∧ s.size ≤ 10) ∧ e = .returned (.agg #[.string s, .int .i64 l, .int .i64 j, .int .i64 lo]) ∧ Below w.heap.size w w' := by
  have hwz : (w.alloc (.cells #[.string ⟨#[]⟩, .int .i64 0, .int .i64 0, .int .i64 0] 25)).heap.size = w.heap.size + 1 := by simp
  have HB1 := Lib.hid (show Below w.heap.size w ((w.alloc (.cells #[.string ⟨#[]⟩, .int .i64 0, .int .i64 0, .int .i64 0] 25)).alloc (.cells #[.slice a len cap, .int .i64 0, .int .u64 0] 62)) from ((Below.refl _ _).alloc (Nat.le_refl _) _).alloc (by simp) _)
  have HS1 := Lib.hid (show SrcB ((w.alloc (.cells #[.string ⟨#[]⟩, .int .i64 0, .int .i64 0, .int .i64 0] 25)).alloc (.cells #[.slice a len cap, .int .i64 0, .int .u64 0] 62)) (w.heap.size + 1) a len cap 0 0 from hwz ▸ SrcB.newD (w.alloc (.cells #[.string ⟨#[]⟩, .int .i64 0, .int .i64 0, .int .i64 0] 25)) a len cap)
  have HY1 := Lib.hid ((hy.below HB1.out).up (Nat.le_succ _))
  have R0 := Lib.hid (show ∀ j v, ([.string ⟨#[]⟩, .int .i64 0, .int .i64 0, .int .i64 0] : List Value)[j]? = some v → ((w.alloc (.cells #[.string ⟨#[]⟩, .int .i64 0, .int .i64 0, .int .i64 0] 25)).alloc (.cells #[.slice a len cap, .int .i64 0, .int .u64 0] 62)).cell? ⟨w.heap.size, j, none⟩ = some v ∧ ((w.alloc (.cells #[.string ⟨#[]⟩, .int .i64 0, .int .i64 0, .int .i64 0] 25)).alloc (.cells #[.slice a len cap, .int .i64 0, .int .u64 0] 62)).frozen? ⟨w.heap.size, j, none⟩ = false from fun j v hj => by
    match j, hj with
    | 0, hj | 1, hj | 2, hj | 3, hj => (simp at hj; subst hj; exact ⟨by simp, by simp⟩)
    | j + 4, hj => simp at hj)
  clear hy
  go_enter Tryz.func5, Tryz.ntmps5
  go_wp2_with fail
  (with_reducible refine (l00FromD a len cap (w.alloc (.cells #[.string ⟨#[]⟩, .int .i64 0, .int .i64 0, .int .i64 0] 25))).mono ?_)
  rintro e w1 ⟨rfl, hw1⟩
  rw [hwz]
  have HS2 := Lib.hid (hw1 ▸ HS1.out)
  have HB2 := Lib.hid (show Below w.heap.size w w1 from hw1 ▸ HB1.out)
  have HY2 := Lib.hid (hw1 ▸ HY1.out)
  have R1 := Lib.hid (show ∀ j v, ([.string ⟨#[]⟩, .int .i64 0, .int .i64 0, .int .i64 0] : List Value)[j]? = some v → w1.cell? ⟨w.heap.size, j, none⟩ = some v ∧ w1.frozen? ⟨w.heap.size, j, none⟩ = false from hw1 ▸ R0.out)
  have hz1 : w.heap.size + 1 < w1.heap.size := HS2.out.cells.2.2
  clear hw1 HS1 HB1 HY1 R0
  go_wp2_with fail
  (with_reducible refine (l11Draw_any (w.heap.size + 1) (w.heap.size + 1) a len cap 0 0 0 w1 HS2.out (Nat.le_refl _) HY2.out hl (by omega) (by omega) (by omega)).mono ?_)
  rintro e w2 ⟨s, l, j, lo, hok, rfl, hd⟩
  have HB3 := Lib.hid (show Below w.heap.size w w2 from HB2.out.trans (hd.mono (Nat.le_succ _)))
  have RZ : ∀ i v, ([.string ⟨#[]⟩, .int .i64 0, .int .i64 0, .int .i64 0] : List Value)[i]? = some v → w2.cell? ⟨w.heap.size, i, none⟩ = some v ∧ w2.frozen? ⟨w.heap.size, i, none⟩ = false := fun i v hi => by
    obtain ⟨h1, h2⟩ := R1.out i v hi
    exact ⟨(hd.cell (p := ⟨w.heap.size, i, none⟩) (by show w.heap.size < w.heap.size + 1; omega)).trans h1, (hd.frozen (p := ⟨w.heap.size, i, none⟩) (by show w.heap.size < w.heap.size + 1; omega)).trans h2⟩
  obtain ⟨m0, g0⟩ := RZ 0 _ rfl
  obtain ⟨m1, g1⟩ := RZ 1 _ rfl
  obtain ⟨m2, g2⟩ := RZ 2 _ rfl
  obtain ⟨m3, g3⟩ := RZ 3 _ rfl
  have HOK := Lib.hid hok
  clear hd hok
  go_wp2
  refine bodyPost_ret (v := .agg #[.string s, .int .i64 l, .int .i64 j, .int .i64 lo]) (by simp [results, Tryz.results5, go_sem, World.cell?_setCell_same', World.cell?_setCell_other, m0, m1, m2, m3]) rfl ⟨s, l, j, lo, HOK.out, rfl, ?_⟩
  have hB3 := HB3.out
  repeat (first | (with_reducible exact hB3) | (with_reducible refine Below.setCell ?_ (by exact Nat.le_refl _) _))
end Go.Proofs.YtoojndohddellaaGreatDoor
