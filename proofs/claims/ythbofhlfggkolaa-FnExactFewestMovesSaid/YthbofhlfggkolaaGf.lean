/-
  Contracts of chapter 4: whether a mine is valid; the program's. Conditions: those that each theorem states.
-/
import Derived.Test.YthbofhlfggkolaaGe
import Derived.Test.YthbofhlfggkolaaRg
namespace Go.Proofs.Ythbofhlfggkolaa
open Go.RowKit
set_option linter.unusedVariables false
set_option linter.unusedSimpArgs false

/-- What the round of ValidMine reads. -/
def KeepA (B g : Nat) (J : Int) (A : Option Addr) (n cap : Nat) (s : ByteArray) (f t l se fr sh : Int) (w0 w' : World) : Prop := ((w'.cell? ⟨g, 0, none⟩ = some (.string s) ∧ w'.cell? ⟨g, 1, none⟩ = some (.int .i64 f) ∧ w'.cell? ⟨g, 2, none⟩ = some (.int .i64 t) ∧ w'.cell? ⟨g, 3, none⟩ = some (.int .i64 l)) ∧ w'.cell? ⟨g, 4, none⟩ = some (.int .i64 se) ∧ w'.cell? ⟨g, 5, none⟩ = some (.int .i64 fr) ∧ w'.cell? ⟨g, 6, none⟩ = some (.int .i64 sh)) ∧ (w'.cell? ⟨B, 0, none⟩ = some (.int .i64 J) ∧ w'.cell? ⟨B, 1, none⟩ = some (.slice A n cap)) ∧ Below w0.heap.size w0 w'
def KeepB (B g b' po : Nat) (J : Int) (A : Option Addr) (n cap : Nat) (ps s : ByteArray) (f t l se fr sh : Int) (w0 w' : World) : Prop := ((w'.cell? ⟨g, 0, none⟩ = some (.string s) ∧ w'.cell? ⟨g, 1, none⟩ = some (.int .i64 f) ∧ w'.cell? ⟨g, 2, none⟩ = some (.int .i64 t) ∧ w'.cell? ⟨g, 3, none⟩ = some (.int .i64 l)) ∧ w'.cell? ⟨g, 4, none⟩ = some (.int .i64 se) ∧ w'.cell? ⟨g, 5, none⟩ = some (.int .i64 fr) ∧ w'.cell? ⟨g, 6, none⟩ = some (.int .i64 sh)) ∧ (w'.cell? ⟨B, 0, none⟩ = some (.int .i64 J) ∧ w'.cell? ⟨B, 1, none⟩ = some (.slice A n cap)) ∧ w'.cell? ⟨b', po, none⟩ = some (.string ps) ∧ Below w0.heap.size w0 w'
theorem cell_keep {w w' : World} {a : Addr} {v : Value} (h : w.cell? a = some v) (hb : Below w.heap.size w w') : w'.cell? a = some v := (hb.cell (World.block_lt_of_cell? _ _ h)).trans h
theorem KeepA.below {B g : Nat} {J : Int} {A : Option Addr} {n cap : Nat} {s : ByteArray} {f t l se fr sh : Int} {w0 w w' : World} (h : KeepA B g J A n cap s f t l se fr sh w0 w) (hb : Below w.heap.size w w') : KeepA B g J A n cap s f t l se fr sh w0 w' := by
  obtain ⟨⟨⟨c0, c1, c2, c3⟩, c4, c5, c6⟩, ⟨m0, m1⟩, h0⟩ := h
  exact ⟨⟨⟨cell_keep c0 hb, cell_keep c1 hb, cell_keep c2 hb, cell_keep c3 hb⟩, cell_keep c4 hb, cell_keep c5 hb, cell_keep c6 hb⟩, ⟨cell_keep m0 hb, cell_keep m1 hb⟩, h0.trans (hb.mono h0.size)⟩
theorem KeepB.below {B g b' po : Nat} {J : Int} {A : Option Addr} {n cap : Nat} {ps s : ByteArray} {f t l se fr sh : Int} {w0 w w' : World} (h : KeepB B g b' po J A n cap ps s f t l se fr sh w0 w) (hb : Below w.heap.size w w') : KeepB B g b' po J A n cap ps s f t l se fr sh w0 w' := by
  obtain ⟨⟨⟨c0, c1, c2, c3⟩, c4, c5, c6⟩, ⟨m0, m1⟩, p0, h0⟩ := h
  exact ⟨⟨⟨cell_keep c0 hb, cell_keep c1 hb, cell_keep c2 hb, cell_keep c3 hb⟩, cell_keep c4 hb, cell_keep c5 hb, cell_keep c6 hb⟩, ⟨cell_keep m0 hb, cell_keep m1 hb⟩, cell_keep p0 hb, h0.trans (hb.mono h0.size)⟩
theorem keepA {B g : Nat} {J : Int} {A : Option Addr} {n cap : Nat} {s : ByteArray} {f t l se fr sh : Int} {w0 w w' : World} (h : ((w.cell? ⟨g, 0, none⟩ = some (.string s) ∧ w.cell? ⟨g, 1, none⟩ = some (.int .i64 f) ∧ w.cell? ⟨g, 2, none⟩ = some (.int .i64 t) ∧ w.cell? ⟨g, 3, none⟩ = some (.int .i64 l)) ∧ w.cell? ⟨g, 4, none⟩ = some (.int .i64 se) ∧ w.cell? ⟨g, 5, none⟩ = some (.int .i64 fr) ∧ w.cell? ⟨g, 6, none⟩ = some (.int .i64 sh)) ∧ (w.cell? ⟨B, 0, none⟩ = some (.int .i64 J) ∧ w.cell? ⟨B, 1, none⟩ = some (.slice A n cap)) ∧ Below w0.heap.size w0 w) (hb : Below w.heap.size w w') : ((w'.cell? ⟨g, 0, none⟩ = some (.string s) ∧ w'.cell? ⟨g, 1, none⟩ = some (.int .i64 f) ∧ w'.cell? ⟨g, 2, none⟩ = some (.int .i64 t) ∧ w'.cell? ⟨g, 3, none⟩ = some (.int .i64 l)) ∧ w'.cell? ⟨g, 4, none⟩ = some (.int .i64 se) ∧ w'.cell? ⟨g, 5, none⟩ = some (.int .i64 fr) ∧ w'.cell? ⟨g, 6, none⟩ = some (.int .i64 sh)) ∧ (w'.cell? ⟨B, 0, none⟩ = some (.int .i64 J) ∧ w'.cell? ⟨B, 1, none⟩ = some (.slice A n cap)) ∧ Below w0.heap.size w0 w' := KeepA.below h hb
theorem keepB {B g b' po : Nat} {J : Int} {A : Option Addr} {n cap : Nat} {ps s : ByteArray} {f t l se fr sh : Int} {w0 w w' : World} (h : ((w.cell? ⟨g, 0, none⟩ = some (.string s) ∧ w.cell? ⟨g, 1, none⟩ = some (.int .i64 f) ∧ w.cell? ⟨g, 2, none⟩ = some (.int .i64 t) ∧ w.cell? ⟨g, 3, none⟩ = some (.int .i64 l)) ∧ w.cell? ⟨g, 4, none⟩ = some (.int .i64 se) ∧ w.cell? ⟨g, 5, none⟩ = some (.int .i64 fr) ∧ w.cell? ⟨g, 6, none⟩ = some (.int .i64 sh)) ∧ (w.cell? ⟨B, 0, none⟩ = some (.int .i64 J) ∧ w.cell? ⟨B, 1, none⟩ = some (.slice A n cap)) ∧ w.cell? ⟨b', po, none⟩ = some (.string ps) ∧ Below w0.heap.size w0 w) (hb : Below w.heap.size w w') : ((w'.cell? ⟨g, 0, none⟩ = some (.string s) ∧ w'.cell? ⟨g, 1, none⟩ = some (.int .i64 f) ∧ w'.cell? ⟨g, 2, none⟩ = some (.int .i64 t) ∧ w'.cell? ⟨g, 3, none⟩ = some (.int .i64 l)) ∧ w'.cell? ⟨g, 4, none⟩ = some (.int .i64 se) ∧ w'.cell? ⟨g, 5, none⟩ = some (.int .i64 fr) ∧ w'.cell? ⟨g, 6, none⟩ = some (.int .i64 sh)) ∧ (w'.cell? ⟨B, 0, none⟩ = some (.int .i64 J) ∧ w'.cell? ⟨B, 1, none⟩ = some (.slice A n cap)) ∧ w'.cell? ⟨b', po, none⟩ = some (.string ps) ∧ Below w0.heap.size w0 w' := KeepB.below h hb
theorem ivA (s : ByteArray) (f t l se fr sh : Int) (v : Bool) (w : World) (hs : s.size ≤ maxLen) (hv : awOk s f t l se fr sh = v) :
    Calls Try.prog 78 #[.agg #[.string s, .int .i64 f, .int .i64 t, .int .i64 l, .int .i64 se, .int .i64 fr, .int .i64 sh]] w fun e w' => e = .returned (.bool v) ∧ Below w.heap.size w w' :=
  hv ▸ iValidAirway_any s f t l se fr sh w hs
theorem ihj (J : Int) (A : Option Addr) (n cap : Nat) (f t : Int) (v : Bool) (w : World) (h1 : 1 ≤ J ∧ J ≤ 16) (hv : (inB f 0 (J - 1) && inB t 0 (J - 1)) = v) (x : Value) (hx : Row .i64 w x [f, t]) :
    Calls Try.prog 79 #[.agg #[.int .i64 J, .slice A n cap], x] w fun e w' => e = .returned (.bool v) ∧ Below w.heap.size w w' :=
  hv ▸ hasJunctions_two J A n cap f t w h1 x hx
theorem row_al (w : World) (x y : Int) (T : TypeId) (c : Nat) : Row .i64 (w.alloc (.cells #[.int .i64 x, .int .i64 y] T)) (.slice (some ⟨w.heap.size, 0, none⟩) 2 c) [x, y] := row_alloc .i64 w [x, y] T c
set_option maxHeartbeats 8000000 in
set_option maxRecDepth 100000 in
theorem iValidMine_any (J : Int) (A : Option Addr) (cap : Nat) (xs : List Aw) (w : World) (hr : AwR w A xs) (hs : ∀ a ∈ xs, a.s.size ≤ maxLen) (hl : xs.length ≤ 1048576) :
    Calls Try.prog 44 #[.agg #[.int .i64 J, .slice A xs.length cap]] w fun e w' => e = .returned (.bool (mineOk J xs)) ∧ Below w.heap.size w w' := by
  by_cases h1 : 1 ≤ J ∧ J ≤ 16
  · have i1 := inB_true h1.1 h1.2
    have HR := Lib.hid hr
    have HS := Lib.hid hs
    by_cases h24 : xs.length ≤ 24
    · have t1 : ¬ (24 : Int) < (xs.length : Int) := by omega
      have t2 : decide ((24 : Int) < (xs.length : Int)) = false := decide_eq_false t1
      have HM := Lib.hid (show mineOk J xs = upTo J xs xs.length by unfold mineOk; rw [i1, Bool.true_and, decide_eq_true h24, Bool.and_true])
      have HB0 := Lib.hid (below_box w (.cells #[.int .i64 J, .slice A xs.length cap] 31))
      clear hr hs
      go_enter Try.func44, Try.ntmps44
      go_wp2_with (go_at_call 54; (with_reducible refine (within64_one _ _ _ _ _ _ (by simp)).mono ?_); rintro e w' ⟨rfl, rfl⟩)
      go_loopw [19] (fun i wr => ∃ k : Nat, k ≤ xs.length ∧ i = .int .i64 k ∧ Below (w.alloc (.cells #[.int .i64 J, .slice A xs.length cap] 31)).heap.size (w.alloc (.cells #[.int .i64 J, .slice A xs.length cap] 31)) wr ∧ Hid (upTo J xs k = true)) (fun i wr => xs.length - (intOf i).toNat)
      case atStart => exact ⟨0, by omega, rfl, (Below.refl _ _).alloc (Nat.le_refl _) _, Lib.hid rfl⟩
      case round =>
        obtain ⟨k, hk, rfl, hbel, HU⟩ := hrel
        have HBW := Lib.hid (HB0.out.trans (hbel.mono (by simp)))
        by_cases hlt : k < xs.length
        · obtain ⟨b', off, rfl, hrg⟩ := HR.out k hlt
          have hrg1 := rangeAt_below hrg HBW.out (rangeAt_lt hrg (by simp [Aw.cells]))
          have hm0 : wr.cell? ⟨w.heap.size, 0, none⟩ = some (.int .i64 J) := by rw [hbel.cell (by simp)]; simp
          have hm1 : wr.cell? ⟨w.heap.size, 1, none⟩ = some (.slice (some ⟨b', off, none⟩) xs.length cap) := by rw [hbel.cell (by simp)]; simp
          obtain ⟨⟨c0, c1, c2, c3⟩, c4, c5, c6⟩ := lay_row hrg1
          have hss := HS.out xs[k] (List.getElem_mem hlt)
          have HX := Lib.hid (getD_of_lt hlt)
          generalize xs[k] = x at *
          obtain ⟨s, f, t, l, se, fr, sh⟩ := x
          dsimp only at c0 c1 c2 c3 c4 c5 c6 hss
          clear hrg hrg1
          obtain ⟨wo, rfl⟩ : ∃ wo : World, wo = wr := ⟨_, rfl⟩
          have hk0 : KeepA w.heap.size wo.heap.size J (some ⟨b', off, none⟩) xs.length cap s f t l se fr sh (wo.alloc (.cells #[.string s, .int .i64 f, .int .i64 t, .int .i64 l, .int .i64 se, .int .i64 fr, .int .i64 sh] 103)) (wo.alloc (.cells #[.string s, .int .i64 f, .int .i64 t, .int .i64 l, .int .i64 se, .int .i64 fr, .int .i64 sh] 103)) := ⟨⟨⟨by simp, by simp, by simp, by simp⟩, by simp, by simp, by simp⟩, ⟨cell_keep hm0 (below_box _ _), cell_keep hm1 (below_box _ _)⟩, Below.refl _ _⟩
          have HK := Lib.hid (show (((wo.alloc (.cells #[.string s, .int .i64 f, .int .i64 t, .int .i64 l, .int .i64 se, .int .i64 fr, .int .i64 sh] 103)).drew.cell? ⟨wo.heap.size, 0, none⟩ = some (.string s) ∧ (wo.alloc (.cells #[.string s, .int .i64 f, .int .i64 t, .int .i64 l, .int .i64 se, .int .i64 fr, .int .i64 sh] 103)).drew.cell? ⟨wo.heap.size, 1, none⟩ = some (.int .i64 f) ∧ (wo.alloc (.cells #[.string s, .int .i64 f, .int .i64 t, .int .i64 l, .int .i64 se, .int .i64 fr, .int .i64 sh] 103)).drew.cell? ⟨wo.heap.size, 2, none⟩ = some (.int .i64 t) ∧ (wo.alloc (.cells #[.string s, .int .i64 f, .int .i64 t, .int .i64 l, .int .i64 se, .int .i64 fr, .int .i64 sh] 103)).drew.cell? ⟨wo.heap.size, 3, none⟩ = some (.int .i64 l)) ∧ (wo.alloc (.cells #[.string s, .int .i64 f, .int .i64 t, .int .i64 l, .int .i64 se, .int .i64 fr, .int .i64 sh] 103)).drew.cell? ⟨wo.heap.size, 4, none⟩ = some (.int .i64 se) ∧ (wo.alloc (.cells #[.string s, .int .i64 f, .int .i64 t, .int .i64 l, .int .i64 se, .int .i64 fr, .int .i64 sh] 103)).drew.cell? ⟨wo.heap.size, 5, none⟩ = some (.int .i64 fr) ∧ (wo.alloc (.cells #[.string s, .int .i64 f, .int .i64 t, .int .i64 l, .int .i64 se, .int .i64 fr, .int .i64 sh] 103)).drew.cell? ⟨wo.heap.size, 6, none⟩ = some (.int .i64 sh)) ∧ ((wo.alloc (.cells #[.string s, .int .i64 f, .int .i64 t, .int .i64 l, .int .i64 se, .int .i64 fr, .int .i64 sh] 103)).drew.cell? ⟨w.heap.size, 0, none⟩ = some (.int .i64 J) ∧ (wo.alloc (.cells #[.string s, .int .i64 f, .int .i64 t, .int .i64 l, .int .i64 se, .int .i64 fr, .int .i64 sh] 103)).drew.cell? ⟨w.heap.size, 1, none⟩ = some (.slice (some ⟨b', off, none⟩) xs.length cap)) ∧ Below (wo.alloc (.cells #[.string s, .int .i64 f, .int .i64 t, .int .i64 l, .int .i64 se, .int .i64 fr, .int .i64 sh] 103)).heap.size (wo.alloc (.cells #[.string s, .int .i64 f, .int .i64 t, .int .i64 l, .int .i64 se, .int .i64 fr, .int .i64 sh] 103)) (wo.alloc (.cells #[.string s, .int .i64 f, .int .i64 t, .int .i64 l, .int .i64 se, .int .i64 fr, .int .i64 sh] 103)).drew from keepA hk0 (Below.drew (Below.refl _ _)))
          clear hk0
          go_wp2
          cases hok : awOk s f t l se fr sh
          · skip
            have HE := Lib.hid (show mineOk J xs = false from mineOk_false hlt (by unfold stepOk; rw [HX.out]; simp [Aw.ok, hok]))
            refine wp_region_held (S := fun w' => ((w'.cell? ⟨wo.heap.size, 0, none⟩ = some (.string s) ∧ w'.cell? ⟨wo.heap.size, 1, none⟩ = some (.int .i64 f) ∧ w'.cell? ⟨wo.heap.size, 2, none⟩ = some (.int .i64 t) ∧ w'.cell? ⟨wo.heap.size, 3, none⟩ = some (.int .i64 l)) ∧ w'.cell? ⟨wo.heap.size, 4, none⟩ = some (.int .i64 se) ∧ w'.cell? ⟨wo.heap.size, 5, none⟩ = some (.int .i64 fr) ∧ w'.cell? ⟨wo.heap.size, 6, none⟩ = some (.int .i64 sh)) ∧ (w'.cell? ⟨w.heap.size, 0, none⟩ = some (.int .i64 J) ∧ w'.cell? ⟨w.heap.size, 1, none⟩ = some (.slice (some ⟨b', off, none⟩) xs.length cap)) ∧ Below (wo.alloc (.cells #[.string s, .int .i64 f, .int .i64 t, .int .i64 l, .int .i64 se, .int .i64 fr, .int .i64 sh] 103)).heap.size (wo.alloc (.cells #[.string s, .int .i64 f, .int .i64 t, .int .i64 l, .int .i64 se, .int .i64 fr, .int .i64 sh] 103)) w') (by kernel_rfl) ?_
            try (change wpAnyH _ _ _ _ _ _ _ _ (World.drew _))
            have hS0 := HK.out
            refine gTake 0 (v := ?_) rfl (by kernel_rfl) (by kernel_rfl) (by kernel_rfl) (fun _ _ _ h => h) (by kernel_rfl) ?_ hS0 ?_
            rotate_left
            · (intro W hW; have q0 := hW.1.1.1; have q1 := hW.1.1.2.1; have q2 := hW.1.1.2.2.1; have q3 := hW.1.1.2.2.2; have q4 := hW.1.2.1; have q5 := hW.1.2.2.1; have q6 := hW.1.2.2.2; have q7 := hW.2.1.1; have q8 := hW.2.1.2; clear hW; go_simp; try with_reducible rfl)
            refine gOne 1 rfl (by kernel_rfl) (by kernel_rfl) (fun K hK => ?_)
            go_simp
            go_at_call 78
            (with_reducible refine (ivA s f t l se fr sh _ _ hss hok).mono ?_)
            rintro e w2 ⟨rfl, hb2⟩
            try go_simp
            have hS1 := keepA hS0 hb2
            refine hK _ _ hS1 ?_
            clear hK K
            refine gTake 2 (v := ?_) rfl (by kernel_rfl) (by kernel_rfl) (by kernel_rfl) (fun _ _ _ h => h) (by kernel_rfl) ?_ hS1 ?_
            rotate_left
            · (intro W hW; clear hW; go_simp; try with_reducible rfl)
            refine gTake 3 (v := ?_) rfl (by kernel_rfl) (by kernel_rfl) (by kernel_rfl) (fun _ _ _ h => h) (by kernel_rfl) ?_ hS1 ?_
            rotate_left
            · (intro W hW; clear hW; go_simp; try with_reducible rfl)
            refine gSkip 4 rfl (by kernel_rfl) (by kernel_rfl) (by kernel_rfl) (fun _ _ _ h => h) (by kernel_rfl) hS1 ?_
            refine gSkip 5 rfl (by kernel_rfl) (by kernel_rfl) (by kernel_rfl) (fun _ _ _ h => h) (by kernel_rfl) hS1 ?_
            refine gSkip 6 rfl (by kernel_rfl) (by kernel_rfl) (by kernel_rfl) (fun _ _ _ h => h) (by kernel_rfl) hS1 ?_
            refine gSkip 7 rfl (by kernel_rfl) (by kernel_rfl) (by kernel_rfl) (fun _ _ _ h => h) (by kernel_rfl) hS1 ?_
            refine gSkip 8 rfl (by kernel_rfl) (by kernel_rfl) (by kernel_rfl) (fun _ _ _ h => h) (by kernel_rfl) hS1 ?_
            refine gSkip 9 rfl (by kernel_rfl) (by kernel_rfl) (by kernel_rfl) (fun _ _ _ h => h) (by kernel_rfl) hS1 ?_
            refine gSkip 10 rfl (by kernel_rfl) (by kernel_rfl) (by kernel_rfl) (fun _ _ _ h => h) (by kernel_rfl) hS1 ?_
            refine gSkip 11 rfl (by kernel_rfl) (by kernel_rfl) (by kernel_rfl) (fun _ _ _ h => h) (by kernel_rfl) hS1 ?_
            refine gTake 12 (v := ?_) rfl (by kernel_rfl) (by kernel_rfl) (by kernel_rfl) (fun _ _ _ h => h) (by kernel_rfl) ?_ hS1 ?_
            rotate_left
            · (intro W hW; clear hW; go_simp; try with_reducible rfl)
            refine gTake 13 (v := ?_) rfl (by kernel_rfl) (by kernel_rfl) (by kernel_rfl) (fun _ _ _ h => h) (by kernel_rfl) ?_ hS1 ?_
            rotate_left
            · (intro W hW; clear hW; go_simp; try with_reducible rfl)
            refine gSkip 14 rfl (by kernel_rfl) (by kernel_rfl) (by kernel_rfl) (fun _ _ _ h => h) (by kernel_rfl) hS1 ?_
            refine gSkip 15 rfl (by kernel_rfl) (by kernel_rfl) (by kernel_rfl) (fun _ _ _ h => h) (by kernel_rfl) hS1 ?_
            refine gSkip 16 rfl (by kernel_rfl) (by kernel_rfl) (by kernel_rfl) (fun _ _ _ h => h) (by kernel_rfl) hS1 ?_
            refine gSkip 17 rfl (by kernel_rfl) (by kernel_rfl) (by kernel_rfl) (fun _ _ _ h => h) (by kernel_rfl) hS1 ?_
            refine gSkip 18 rfl (by kernel_rfl) (by kernel_rfl) (by kernel_rfl) (fun _ _ _ h => h) (by kernel_rfl) hS1 ?_
            refine gSkip 19 rfl (by kernel_rfl) (by kernel_rfl) (by kernel_rfl) (fun _ _ _ h => h) (by kernel_rfl) hS1 ?_
            refine gSkip 20 rfl (by kernel_rfl) (by kernel_rfl) (by kernel_rfl) (fun _ _ _ h => h) (by kernel_rfl) hS1 ?_
            refine gSkip 21 rfl (by kernel_rfl) (by kernel_rfl) (by kernel_rfl) (fun _ _ _ h => h) (by kernel_rfl) hS1 ?_
            refine gSkip 22 rfl (by kernel_rfl) (by kernel_rfl) (by kernel_rfl) (fun _ _ _ h => h) (by kernel_rfl) hS1 ?_
            refine gSkip 23 rfl (by kernel_rfl) (by kernel_rfl) (by kernel_rfl) (fun _ _ _ h => h) (by kernel_rfl) hS1 ?_
            refine gSkip 24 rfl (by kernel_rfl) (by kernel_rfl) (by kernel_rfl) (fun _ _ _ h => h) (by kernel_rfl) hS1 ?_
            refine gSkip 25 rfl (by kernel_rfl) (by kernel_rfl) (by kernel_rfl) (fun _ _ _ h => h) (by kernel_rfl) hS1 ?_
            refine gSkip 26 rfl (by kernel_rfl) (by kernel_rfl) (by kernel_rfl) (fun _ _ _ h => h) (by kernel_rfl) hS1 ?_
            refine gSkip 27 rfl (by kernel_rfl) (by kernel_rfl) (by kernel_rfl) (fun _ _ _ h => h) (by kernel_rfl) hS1 ?_
            refine gTake 28 (v := ?_) rfl (by kernel_rfl) (by kernel_rfl) (by kernel_rfl) (fun _ _ _ h => h) (by kernel_rfl) ?_ hS1 ?_
            rotate_left
            · (intro W hW; clear hW; go_simp; try with_reducible rfl)
            refine wpAnyH_done (by kernel_rfl) ?_ _
            go_simp
            go_wp2
            go_ret
            exact ⟨ret_bool HE.out.symm, HBW.out.trans (((below_box wo (.cells #[.string s, .int .i64 f, .int .i64 t, .int .i64 l, .int .i64 se, .int .i64 fr, .int .i64 sh] 103)).trans (hS1.2.2.mono (by simp))).mono HBW.out.size)⟩
          · cases hj : (inB f 0 (J - 1) && inB t 0 (J - 1))
            · skip
              have HE := Lib.hid (show mineOk J xs = false from mineOk_false hlt (by unfold stepOk; rw [HX.out]; simp only [Aw.ok, hok, Bool.true_and]; rw [hj, Bool.false_and]))
              refine wp_region_held (S := fun w' => ((w'.cell? ⟨wo.heap.size, 0, none⟩ = some (.string s) ∧ w'.cell? ⟨wo.heap.size, 1, none⟩ = some (.int .i64 f) ∧ w'.cell? ⟨wo.heap.size, 2, none⟩ = some (.int .i64 t) ∧ w'.cell? ⟨wo.heap.size, 3, none⟩ = some (.int .i64 l)) ∧ w'.cell? ⟨wo.heap.size, 4, none⟩ = some (.int .i64 se) ∧ w'.cell? ⟨wo.heap.size, 5, none⟩ = some (.int .i64 fr) ∧ w'.cell? ⟨wo.heap.size, 6, none⟩ = some (.int .i64 sh)) ∧ (w'.cell? ⟨w.heap.size, 0, none⟩ = some (.int .i64 J) ∧ w'.cell? ⟨w.heap.size, 1, none⟩ = some (.slice (some ⟨b', off, none⟩) xs.length cap)) ∧ Below (wo.alloc (.cells #[.string s, .int .i64 f, .int .i64 t, .int .i64 l, .int .i64 se, .int .i64 fr, .int .i64 sh] 103)).heap.size (wo.alloc (.cells #[.string s, .int .i64 f, .int .i64 t, .int .i64 l, .int .i64 se, .int .i64 fr, .int .i64 sh] 103)) w') (by kernel_rfl) ?_
              try (change wpAnyH _ _ _ _ _ _ _ _ (World.drew _))
              have hS0 := HK.out
              refine gTake 0 (v := ?_) rfl (by kernel_rfl) (by kernel_rfl) (by kernel_rfl) (fun _ _ _ h => h) (by kernel_rfl) ?_ hS0 ?_
              rotate_left
              · (intro W hW; have q0 := hW.1.1.1; have q1 := hW.1.1.2.1; have q2 := hW.1.1.2.2.1; have q3 := hW.1.1.2.2.2; have q4 := hW.1.2.1; have q5 := hW.1.2.2.1; have q6 := hW.1.2.2.2; have q7 := hW.2.1.1; have q8 := hW.2.1.2; clear hW; go_simp; try with_reducible rfl)
              refine gOne 1 rfl (by kernel_rfl) (by kernel_rfl) (fun K hK => ?_)
              go_simp
              go_at_call 78
              (with_reducible refine (ivA s f t l se fr sh _ _ hss hok).mono ?_)
              rintro e w2 ⟨rfl, hb2⟩
              try go_simp
              have hS1 := keepA hS0 hb2
              refine hK _ _ hS1 ?_
              clear hK K
              refine gTake 2 (v := ?_) rfl (by kernel_rfl) (by kernel_rfl) (by kernel_rfl) (fun _ _ _ h => h) (by kernel_rfl) ?_ hS1 ?_
              rotate_left
              · (intro W hW; clear hW; go_simp; try with_reducible rfl)
              refine gTake 3 (v := ?_) rfl (by kernel_rfl) (by kernel_rfl) (by kernel_rfl) (fun _ _ _ h => h) (by kernel_rfl) ?_ hS1 ?_
              rotate_left
              · (intro W hW; clear hW; go_simp; try with_reducible rfl)
              refine gTake 4 (v := ?_) rfl (by kernel_rfl) (by kernel_rfl) (by kernel_rfl) (fun _ _ _ h => h) (by kernel_rfl) ?_ hS1 ?_
              rotate_left
              · (intro W hW; have q0 := hW.1.1.1; have q1 := hW.1.1.2.1; have q2 := hW.1.1.2.2.1; have q3 := hW.1.1.2.2.2; have q4 := hW.1.2.1; have q5 := hW.1.2.2.1; have q6 := hW.1.2.2.2; have q7 := hW.2.1.1; have q8 := hW.2.1.2; clear hW; go_simp; try with_reducible rfl)
              refine gTake 5 (v := ?_) rfl (by kernel_rfl) (by kernel_rfl) (by kernel_rfl) (fun _ _ _ h => h) (by kernel_rfl) ?_ hS1 ?_
              rotate_left
              · (intro W hW; clear hW; go_simp; try with_reducible rfl)
              refine gTake 6 (v := ?_) rfl (by kernel_rfl) (by kernel_rfl) (by kernel_rfl) (fun _ _ _ h => h) (by kernel_rfl) ?_ hS1 ?_
              rotate_left
              · (intro W hW; have q0 := hW.1.1.1; have q1 := hW.1.1.2.1; have q2 := hW.1.1.2.2.1; have q3 := hW.1.1.2.2.2; have q4 := hW.1.2.1; have q5 := hW.1.2.2.1; have q6 := hW.1.2.2.2; have q7 := hW.2.1.1; have q8 := hW.2.1.2; clear hW; go_simp; try with_reducible rfl)
              refine gTake 7 (v := ?_) rfl (by kernel_rfl) (by kernel_rfl) (by kernel_rfl) (fun _ _ _ h => h) (by kernel_rfl) ?_ hS1 ?_
              rotate_left
              · (intro W hW; clear hW; go_simp; try with_reducible rfl)
              refine gTake 8 (v := ?_) rfl (by kernel_rfl) (by kernel_rfl) (by kernel_rfl) (fun _ _ _ h => h) (by kernel_rfl) ?_ hS1 ?_
              rotate_left
              · (intro W hW; have q0 := hW.1.1.1; have q1 := hW.1.1.2.1; have q2 := hW.1.1.2.2.1; have q3 := hW.1.1.2.2.2; have q4 := hW.1.2.1; have q5 := hW.1.2.2.1; have q6 := hW.1.2.2.2; have q7 := hW.2.1.1; have q8 := hW.2.1.2; clear hW; go_simp; try with_reducible rfl)
              refine gOne 9 rfl (by kernel_rfl) (by kernel_rfl) (fun K hK => ?_)
              go_simp
              skip
              have hS2 := keepA hS1 (below_box w2 (.cells #[.int .i64 f, .int .i64 t] 2))
              refine hK _ _ hS2 ?_
              clear hK K
              refine gOne 10 rfl (by kernel_rfl) (by kernel_rfl) (fun K hK => ?_)
              go_simp
              go_at_call 79
              (with_reducible refine (ihj J _ _ cap f t _ _ h1 hj _ (row_al _ _ _ _ _)).mono ?_)
              rintro e w3 ⟨rfl, hb3⟩
              try go_simp
              have hS3 := keepA hS2 hb3
              refine hK _ _ hS3 ?_
              clear hK K
              refine gTake 11 (v := ?_) rfl (by kernel_rfl) (by kernel_rfl) (by kernel_rfl) (fun _ _ _ h => h) (by kernel_rfl) ?_ hS3 ?_
              rotate_left
              · (intro W hW; clear hW; go_simp; try with_reducible rfl)
              refine gTake 12 (v := ?_) rfl (by kernel_rfl) (by kernel_rfl) (by kernel_rfl) (fun _ _ _ h => h) (by kernel_rfl) ?_ hS3 ?_
              rotate_left
              · (intro W hW; clear hW; go_simp; try with_reducible rfl)
              refine gTake 13 (v := ?_) rfl (by kernel_rfl) (by kernel_rfl) (by kernel_rfl) (fun _ _ _ h => h) (by kernel_rfl) ?_ hS3 ?_
              rotate_left
              · (intro W hW; clear hW; go_simp; try with_reducible rfl)
              refine gSkip 14 rfl (by kernel_rfl) (by kernel_rfl) (by kernel_rfl) (fun _ _ _ h => h) (by kernel_rfl) hS3 ?_
              refine gSkip 15 rfl (by kernel_rfl) (by kernel_rfl) (by kernel_rfl) (fun _ _ _ h => h) (by kernel_rfl) hS3 ?_
              refine gSkip 16 rfl (by kernel_rfl) (by kernel_rfl) (by kernel_rfl) (fun _ _ _ h => h) (by kernel_rfl) hS3 ?_
              refine gSkip 17 rfl (by kernel_rfl) (by kernel_rfl) (by kernel_rfl) (fun _ _ _ h => h) (by kernel_rfl) hS3 ?_
              refine gSkip 18 rfl (by kernel_rfl) (by kernel_rfl) (by kernel_rfl) (fun _ _ _ h => h) (by kernel_rfl) hS3 ?_
              refine gSkip 19 rfl (by kernel_rfl) (by kernel_rfl) (by kernel_rfl) (fun _ _ _ h => h) (by kernel_rfl) hS3 ?_
              refine gSkip 20 rfl (by kernel_rfl) (by kernel_rfl) (by kernel_rfl) (fun _ _ _ h => h) (by kernel_rfl) hS3 ?_
              refine gSkip 21 rfl (by kernel_rfl) (by kernel_rfl) (by kernel_rfl) (fun _ _ _ h => h) (by kernel_rfl) hS3 ?_
              refine gSkip 22 rfl (by kernel_rfl) (by kernel_rfl) (by kernel_rfl) (fun _ _ _ h => h) (by kernel_rfl) hS3 ?_
              refine gSkip 23 rfl (by kernel_rfl) (by kernel_rfl) (by kernel_rfl) (fun _ _ _ h => h) (by kernel_rfl) hS3 ?_
              refine gSkip 24 rfl (by kernel_rfl) (by kernel_rfl) (by kernel_rfl) (fun _ _ _ h => h) (by kernel_rfl) hS3 ?_
              refine gSkip 25 rfl (by kernel_rfl) (by kernel_rfl) (by kernel_rfl) (fun _ _ _ h => h) (by kernel_rfl) hS3 ?_
              refine gSkip 26 rfl (by kernel_rfl) (by kernel_rfl) (by kernel_rfl) (fun _ _ _ h => h) (by kernel_rfl) hS3 ?_
              refine gSkip 27 rfl (by kernel_rfl) (by kernel_rfl) (by kernel_rfl) (fun _ _ _ h => h) (by kernel_rfl) hS3 ?_
              refine gTake 28 (v := ?_) rfl (by kernel_rfl) (by kernel_rfl) (by kernel_rfl) (fun _ _ _ h => h) (by kernel_rfl) ?_ hS3 ?_
              rotate_left
              · (intro W hW; clear hW; go_simp; try with_reducible rfl)
              refine wpAnyH_done (by kernel_rfl) ?_ _
              go_simp
              go_wp2
              go_ret
              exact ⟨ret_bool HE.out.symm, HBW.out.trans (((below_box wo (.cells #[.string s, .int .i64 f, .int .i64 t, .int .i64 l, .int .i64 se, .int .i64 fr, .int .i64 sh] 103)).trans (hS3.2.2.mono (by simp))).mono HBW.out.size)⟩
            · cases k with
              | zero =>
                skip
                have HE := Lib.hid (show upTo J xs (0 + 1) = true by rw [upTo, HU.out, Bool.true_and]; unfold stepOk; rw [HX.out]; simp only [Aw.ok, hok, Bool.true_and]; rw [hj]; rfl)
                refine wp_region_held (S := fun w' => ((w'.cell? ⟨wo.heap.size, 0, none⟩ = some (.string s) ∧ w'.cell? ⟨wo.heap.size, 1, none⟩ = some (.int .i64 f) ∧ w'.cell? ⟨wo.heap.size, 2, none⟩ = some (.int .i64 t) ∧ w'.cell? ⟨wo.heap.size, 3, none⟩ = some (.int .i64 l)) ∧ w'.cell? ⟨wo.heap.size, 4, none⟩ = some (.int .i64 se) ∧ w'.cell? ⟨wo.heap.size, 5, none⟩ = some (.int .i64 fr) ∧ w'.cell? ⟨wo.heap.size, 6, none⟩ = some (.int .i64 sh)) ∧ (w'.cell? ⟨w.heap.size, 0, none⟩ = some (.int .i64 J) ∧ w'.cell? ⟨w.heap.size, 1, none⟩ = some (.slice (some ⟨b', off, none⟩) xs.length cap)) ∧ Below (wo.alloc (.cells #[.string s, .int .i64 f, .int .i64 t, .int .i64 l, .int .i64 se, .int .i64 fr, .int .i64 sh] 103)).heap.size (wo.alloc (.cells #[.string s, .int .i64 f, .int .i64 t, .int .i64 l, .int .i64 se, .int .i64 fr, .int .i64 sh] 103)) w') (by kernel_rfl) ?_
                try (change wpAnyH _ _ _ _ _ _ _ _ (World.drew _))
                have hS0 := HK.out
                refine gTake 0 (v := ?_) rfl (by kernel_rfl) (by kernel_rfl) (by kernel_rfl) (fun _ _ _ h => h) (by kernel_rfl) ?_ hS0 ?_
                rotate_left
                · (intro W hW; have q0 := hW.1.1.1; have q1 := hW.1.1.2.1; have q2 := hW.1.1.2.2.1; have q3 := hW.1.1.2.2.2; have q4 := hW.1.2.1; have q5 := hW.1.2.2.1; have q6 := hW.1.2.2.2; have q7 := hW.2.1.1; have q8 := hW.2.1.2; clear hW; go_simp; try with_reducible rfl)
                refine gOne 1 rfl (by kernel_rfl) (by kernel_rfl) (fun K hK => ?_)
                go_simp
                go_at_call 78
                (with_reducible refine (ivA s f t l se fr sh _ _ hss hok).mono ?_)
                rintro e w2 ⟨rfl, hb2⟩
                try go_simp
                have hS1 := keepA hS0 hb2
                refine hK _ _ hS1 ?_
                clear hK K
                refine gTake 2 (v := ?_) rfl (by kernel_rfl) (by kernel_rfl) (by kernel_rfl) (fun _ _ _ h => h) (by kernel_rfl) ?_ hS1 ?_
                rotate_left
                · (intro W hW; clear hW; go_simp; try with_reducible rfl)
                refine gTake 3 (v := ?_) rfl (by kernel_rfl) (by kernel_rfl) (by kernel_rfl) (fun _ _ _ h => h) (by kernel_rfl) ?_ hS1 ?_
                rotate_left
                · (intro W hW; clear hW; go_simp; try with_reducible rfl)
                refine gTake 4 (v := ?_) rfl (by kernel_rfl) (by kernel_rfl) (by kernel_rfl) (fun _ _ _ h => h) (by kernel_rfl) ?_ hS1 ?_
                rotate_left
                · (intro W hW; have q0 := hW.1.1.1; have q1 := hW.1.1.2.1; have q2 := hW.1.1.2.2.1; have q3 := hW.1.1.2.2.2; have q4 := hW.1.2.1; have q5 := hW.1.2.2.1; have q6 := hW.1.2.2.2; have q7 := hW.2.1.1; have q8 := hW.2.1.2; clear hW; go_simp; try with_reducible rfl)
                refine gTake 5 (v := ?_) rfl (by kernel_rfl) (by kernel_rfl) (by kernel_rfl) (fun _ _ _ h => h) (by kernel_rfl) ?_ hS1 ?_
                rotate_left
                · (intro W hW; clear hW; go_simp; try with_reducible rfl)
                refine gTake 6 (v := ?_) rfl (by kernel_rfl) (by kernel_rfl) (by kernel_rfl) (fun _ _ _ h => h) (by kernel_rfl) ?_ hS1 ?_
                rotate_left
                · (intro W hW; have q0 := hW.1.1.1; have q1 := hW.1.1.2.1; have q2 := hW.1.1.2.2.1; have q3 := hW.1.1.2.2.2; have q4 := hW.1.2.1; have q5 := hW.1.2.2.1; have q6 := hW.1.2.2.2; have q7 := hW.2.1.1; have q8 := hW.2.1.2; clear hW; go_simp; try with_reducible rfl)
                refine gTake 7 (v := ?_) rfl (by kernel_rfl) (by kernel_rfl) (by kernel_rfl) (fun _ _ _ h => h) (by kernel_rfl) ?_ hS1 ?_
                rotate_left
                · (intro W hW; clear hW; go_simp; try with_reducible rfl)
                refine gTake 8 (v := ?_) rfl (by kernel_rfl) (by kernel_rfl) (by kernel_rfl) (fun _ _ _ h => h) (by kernel_rfl) ?_ hS1 ?_
                rotate_left
                · (intro W hW; have q0 := hW.1.1.1; have q1 := hW.1.1.2.1; have q2 := hW.1.1.2.2.1; have q3 := hW.1.1.2.2.2; have q4 := hW.1.2.1; have q5 := hW.1.2.2.1; have q6 := hW.1.2.2.2; have q7 := hW.2.1.1; have q8 := hW.2.1.2; clear hW; go_simp; try with_reducible rfl)
                refine gOne 9 rfl (by kernel_rfl) (by kernel_rfl) (fun K hK => ?_)
                go_simp
                skip
                have hS2 := keepA hS1 (below_box w2 (.cells #[.int .i64 f, .int .i64 t] 2))
                refine hK _ _ hS2 ?_
                clear hK K
                refine gOne 10 rfl (by kernel_rfl) (by kernel_rfl) (fun K hK => ?_)
                go_simp
                go_at_call 79
                (with_reducible refine (ihj J _ _ cap f t _ _ h1 hj _ (row_al _ _ _ _ _)).mono ?_)
                rintro e w3 ⟨rfl, hb3⟩
                try go_simp
                have hS3 := keepA hS2 hb3
                refine hK _ _ hS3 ?_
                clear hK K
                refine gTake 11 (v := ?_) rfl (by kernel_rfl) (by kernel_rfl) (by kernel_rfl) (fun _ _ _ h => h) (by kernel_rfl) ?_ hS3 ?_
                rotate_left
                · (intro W hW; clear hW; go_simp; try with_reducible rfl)
                refine gTake 12 (v := ?_) rfl (by kernel_rfl) (by kernel_rfl) (by kernel_rfl) (fun _ _ _ h => h) (by kernel_rfl) ?_ hS3 ?_
                rotate_left
                · (intro W hW; clear hW; go_simp; try with_reducible rfl)
                refine gTake 13 (v := ?_) rfl (by kernel_rfl) (by kernel_rfl) (by kernel_rfl) (fun _ _ _ h => h) (by kernel_rfl) ?_ hS3 ?_
                rotate_left
                · (intro W hW; clear hW; go_simp; try with_reducible rfl)
                refine gTake 14 (v := ?_) rfl (by kernel_rfl) (by kernel_rfl) (by kernel_rfl) (fun _ _ _ h => h) (by kernel_rfl) ?_ hS3 ?_
                rotate_left
                · (intro W hW; clear hW; go_simp; try with_reducible rfl)
                refine gTake 15 (v := ?_) rfl (by kernel_rfl) (by kernel_rfl) (by kernel_rfl) (fun _ _ _ h => h) (by kernel_rfl) ?_ hS3 ?_
                rotate_left
                · (intro W hW; clear hW; go_simp; try with_reducible rfl)
                refine gTake 16 (v := ?_) rfl (by kernel_rfl) (by kernel_rfl) (by kernel_rfl) (fun _ _ _ h => h) (by kernel_rfl) ?_ hS3 ?_
                rotate_left
                · (intro W hW; clear hW; go_simp; try with_reducible rfl)
                refine gSkip 17 rfl (by kernel_rfl) (by kernel_rfl) (by kernel_rfl) (fun _ _ _ h => h) (by kernel_rfl) hS3 ?_
                refine gSkip 18 rfl (by kernel_rfl) (by kernel_rfl) (by kernel_rfl) (fun _ _ _ h => h) (by kernel_rfl) hS3 ?_
                refine gSkip 19 rfl (by kernel_rfl) (by kernel_rfl) (by kernel_rfl) (fun _ _ _ h => h) (by kernel_rfl) hS3 ?_
                refine gSkip 20 rfl (by kernel_rfl) (by kernel_rfl) (by kernel_rfl) (fun _ _ _ h => h) (by kernel_rfl) hS3 ?_
                refine gSkip 21 rfl (by kernel_rfl) (by kernel_rfl) (by kernel_rfl) (fun _ _ _ h => h) (by kernel_rfl) hS3 ?_
                refine gSkip 22 rfl (by kernel_rfl) (by kernel_rfl) (by kernel_rfl) (fun _ _ _ h => h) (by kernel_rfl) hS3 ?_
                refine gSkip 23 rfl (by kernel_rfl) (by kernel_rfl) (by kernel_rfl) (fun _ _ _ h => h) (by kernel_rfl) hS3 ?_
                refine gSkip 24 rfl (by kernel_rfl) (by kernel_rfl) (by kernel_rfl) (fun _ _ _ h => h) (by kernel_rfl) hS3 ?_
                refine gSkip 25 rfl (by kernel_rfl) (by kernel_rfl) (by kernel_rfl) (fun _ _ _ h => h) (by kernel_rfl) hS3 ?_
                refine gSkip 26 rfl (by kernel_rfl) (by kernel_rfl) (by kernel_rfl) (fun _ _ _ h => h) (by kernel_rfl) hS3 ?_
                refine gTake 27 (v := ?_) rfl (by kernel_rfl) (by kernel_rfl) (by kernel_rfl) (fun _ _ _ h => h) (by kernel_rfl) ?_ hS3 ?_
                rotate_left
                · (intro W hW; clear hW; go_simp; try with_reducible rfl)
                refine gTake 28 (v := ?_) rfl (by kernel_rfl) (by kernel_rfl) (by kernel_rfl) (fun _ _ _ h => h) (by kernel_rfl) ?_ hS3 ?_
                rotate_left
                · (intro W hW; clear hW; go_simp; try with_reducible rfl)
                refine wpAnyH_done (by kernel_rfl) ?_ _
                go_simp
                go_wp2
                go_roundw
                case rel => exact ⟨0 + 1, by omega, by go_num, hbel.trans (((below_box wo (.cells #[.string s, .int .i64 f, .int .i64 t, .int .i64 l, .int .i64 se, .int .i64 fr, .int .i64 sh] 103)).trans (hS3.2.2.mono (by simp))).mono hbel.size), HE⟩
                case measure => simp [intOf]; omega
              | succ k =>
                have hlk : k < xs.length := by omega
                obtain ⟨b2, off2, e2, hrg2⟩ := HR.out k hlk
                injection e2 with e2
                injection e2 with e2 e3
                subst e2 e3
                have d0 := (lay_row (rangeAt_below hrg2 HBW.out (rangeAt_lt hrg2 (by simp [Aw.cells])))).1.1
                have HX2 := Lib.hid (getD_of_lt hlk)
                generalize xs[k] = y at *
                obtain ⟨ps, pf, pt, pl, pse, pfr, psh⟩ := y
                dsimp only at d0
                clear hrg2
                have hk1 : (0 : Int) < ((k + 1 : Nat) : Int) := by omega
                have hk2 : IntKind.i64.wrap (k : Int) = (k : Int) := IntWalk.i64_in _ (by omega)
                have hk3 : (k : Int) < (xs.length : Int) := by omega
                have hk4 : 0 ≤ (k : Int) := by omega
                have HKp := Lib.hid (show (((wo.alloc (.cells #[.string s, .int .i64 f, .int .i64 t, .int .i64 l, .int .i64 se, .int .i64 fr, .int .i64 sh] 103)).drew.cell? ⟨wo.heap.size, 0, none⟩ = some (.string s) ∧ (wo.alloc (.cells #[.string s, .int .i64 f, .int .i64 t, .int .i64 l, .int .i64 se, .int .i64 fr, .int .i64 sh] 103)).drew.cell? ⟨wo.heap.size, 1, none⟩ = some (.int .i64 f) ∧ (wo.alloc (.cells #[.string s, .int .i64 f, .int .i64 t, .int .i64 l, .int .i64 se, .int .i64 fr, .int .i64 sh] 103)).drew.cell? ⟨wo.heap.size, 2, none⟩ = some (.int .i64 t) ∧ (wo.alloc (.cells #[.string s, .int .i64 f, .int .i64 t, .int .i64 l, .int .i64 se, .int .i64 fr, .int .i64 sh] 103)).drew.cell? ⟨wo.heap.size, 3, none⟩ = some (.int .i64 l)) ∧ (wo.alloc (.cells #[.string s, .int .i64 f, .int .i64 t, .int .i64 l, .int .i64 se, .int .i64 fr, .int .i64 sh] 103)).drew.cell? ⟨wo.heap.size, 4, none⟩ = some (.int .i64 se) ∧ (wo.alloc (.cells #[.string s, .int .i64 f, .int .i64 t, .int .i64 l, .int .i64 se, .int .i64 fr, .int .i64 sh] 103)).drew.cell? ⟨wo.heap.size, 5, none⟩ = some (.int .i64 fr) ∧ (wo.alloc (.cells #[.string s, .int .i64 f, .int .i64 t, .int .i64 l, .int .i64 se, .int .i64 fr, .int .i64 sh] 103)).drew.cell? ⟨wo.heap.size, 6, none⟩ = some (.int .i64 sh)) ∧ ((wo.alloc (.cells #[.string s, .int .i64 f, .int .i64 t, .int .i64 l, .int .i64 se, .int .i64 fr, .int .i64 sh] 103)).drew.cell? ⟨w.heap.size, 0, none⟩ = some (.int .i64 J) ∧ (wo.alloc (.cells #[.string s, .int .i64 f, .int .i64 t, .int .i64 l, .int .i64 se, .int .i64 fr, .int .i64 sh] 103)).drew.cell? ⟨w.heap.size, 1, none⟩ = some (.slice (some ⟨b', off, none⟩) xs.length cap)) ∧ (wo.alloc (.cells #[.string s, .int .i64 f, .int .i64 t, .int .i64 l, .int .i64 se, .int .i64 fr, .int .i64 sh] 103)).drew.cell? ⟨b', off + k * 7, none⟩ = some (.string ps) ∧ Below (wo.alloc (.cells #[.string s, .int .i64 f, .int .i64 t, .int .i64 l, .int .i64 se, .int .i64 fr, .int .i64 sh] 103)).heap.size (wo.alloc (.cells #[.string s, .int .i64 f, .int .i64 t, .int .i64 l, .int .i64 se, .int .i64 fr, .int .i64 sh] 103)) (wo.alloc (.cells #[.string s, .int .i64 f, .int .i64 t, .int .i64 l, .int .i64 se, .int .i64 fr, .int .i64 sh] 103)).drew from ⟨HK.out.1, HK.out.2.1, cell_keep d0 (Below.drew (below_box _ _)), HK.out.2.2⟩)
                have HT := Lib.hid (less_total ps.toList s.toList)
                cases hls : Op.bytesLess ps.toList s.toList
                · have hq := HT.out
                  rw [hls] at hq
                  replace hq : (Op.bytesLess s.toList ps.toList || s.toList == ps.toList) = true := hq.symm
                  have HE := Lib.hid (show mineOk J xs = false from mineOk_false hlt (by unfold stepOk; rw [HX.out, Nat.add_sub_cancel, HX2.out]; simp only [Aw.ok, hok, Bool.true_and]; rw [hj, hls]; simp))
                  refine wp_region_held (S := fun w' => ((w'.cell? ⟨wo.heap.size, 0, none⟩ = some (.string s) ∧ w'.cell? ⟨wo.heap.size, 1, none⟩ = some (.int .i64 f) ∧ w'.cell? ⟨wo.heap.size, 2, none⟩ = some (.int .i64 t) ∧ w'.cell? ⟨wo.heap.size, 3, none⟩ = some (.int .i64 l)) ∧ w'.cell? ⟨wo.heap.size, 4, none⟩ = some (.int .i64 se) ∧ w'.cell? ⟨wo.heap.size, 5, none⟩ = some (.int .i64 fr) ∧ w'.cell? ⟨wo.heap.size, 6, none⟩ = some (.int .i64 sh)) ∧ (w'.cell? ⟨w.heap.size, 0, none⟩ = some (.int .i64 J) ∧ w'.cell? ⟨w.heap.size, 1, none⟩ = some (.slice (some ⟨b', off, none⟩) xs.length cap)) ∧ w'.cell? ⟨b', off + k * 7, none⟩ = some (.string ps) ∧ Below (wo.alloc (.cells #[.string s, .int .i64 f, .int .i64 t, .int .i64 l, .int .i64 se, .int .i64 fr, .int .i64 sh] 103)).heap.size (wo.alloc (.cells #[.string s, .int .i64 f, .int .i64 t, .int .i64 l, .int .i64 se, .int .i64 fr, .int .i64 sh] 103)) w') (by kernel_rfl) ?_
                  try (change wpAnyH _ _ _ _ _ _ _ _ (World.drew _))
                  have hS0 := HKp.out
                  refine gTake 0 (v := ?_) rfl (by kernel_rfl) (by kernel_rfl) (by kernel_rfl) (fun _ _ _ h => h) (by kernel_rfl) ?_ hS0 ?_
                  rotate_left
                  · (intro W hW; have q0 := hW.1.1.1; have q1 := hW.1.1.2.1; have q2 := hW.1.1.2.2.1; have q3 := hW.1.1.2.2.2; have q4 := hW.1.2.1; have q5 := hW.1.2.2.1; have q6 := hW.1.2.2.2; have q7 := hW.2.1.1; have q8 := hW.2.1.2; have q9 := hW.2.2.1; clear hW; go_simp; try with_reducible rfl)
                  refine gOne 1 rfl (by kernel_rfl) (by kernel_rfl) (fun K hK => ?_)
                  go_simp
                  go_at_call 78
                  (with_reducible refine (ivA s f t l se fr sh _ _ hss hok).mono ?_)
                  rintro e w2 ⟨rfl, hb2⟩
                  try go_simp
                  have hS1 := keepB hS0 hb2
                  refine hK _ _ hS1 ?_
                  clear hK K
                  refine gTake 2 (v := ?_) rfl (by kernel_rfl) (by kernel_rfl) (by kernel_rfl) (fun _ _ _ h => h) (by kernel_rfl) ?_ hS1 ?_
                  rotate_left
                  · (intro W hW; clear hW; go_simp; try with_reducible rfl)
                  refine gTake 3 (v := ?_) rfl (by kernel_rfl) (by kernel_rfl) (by kernel_rfl) (fun _ _ _ h => h) (by kernel_rfl) ?_ hS1 ?_
                  rotate_left
                  · (intro W hW; clear hW; go_simp; try with_reducible rfl)
                  refine gTake 4 (v := ?_) rfl (by kernel_rfl) (by kernel_rfl) (by kernel_rfl) (fun _ _ _ h => h) (by kernel_rfl) ?_ hS1 ?_
                  rotate_left
                  · (intro W hW; have q0 := hW.1.1.1; have q1 := hW.1.1.2.1; have q2 := hW.1.1.2.2.1; have q3 := hW.1.1.2.2.2; have q4 := hW.1.2.1; have q5 := hW.1.2.2.1; have q6 := hW.1.2.2.2; have q7 := hW.2.1.1; have q8 := hW.2.1.2; have q9 := hW.2.2.1; clear hW; go_simp; try with_reducible rfl)
                  refine gTake 5 (v := ?_) rfl (by kernel_rfl) (by kernel_rfl) (by kernel_rfl) (fun _ _ _ h => h) (by kernel_rfl) ?_ hS1 ?_
                  rotate_left
                  · (intro W hW; clear hW; go_simp; try with_reducible rfl)
                  refine gTake 6 (v := ?_) rfl (by kernel_rfl) (by kernel_rfl) (by kernel_rfl) (fun _ _ _ h => h) (by kernel_rfl) ?_ hS1 ?_
                  rotate_left
                  · (intro W hW; have q0 := hW.1.1.1; have q1 := hW.1.1.2.1; have q2 := hW.1.1.2.2.1; have q3 := hW.1.1.2.2.2; have q4 := hW.1.2.1; have q5 := hW.1.2.2.1; have q6 := hW.1.2.2.2; have q7 := hW.2.1.1; have q8 := hW.2.1.2; have q9 := hW.2.2.1; clear hW; go_simp; try with_reducible rfl)
                  refine gTake 7 (v := ?_) rfl (by kernel_rfl) (by kernel_rfl) (by kernel_rfl) (fun _ _ _ h => h) (by kernel_rfl) ?_ hS1 ?_
                  rotate_left
                  · (intro W hW; clear hW; go_simp; try with_reducible rfl)
                  refine gTake 8 (v := ?_) rfl (by kernel_rfl) (by kernel_rfl) (by kernel_rfl) (fun _ _ _ h => h) (by kernel_rfl) ?_ hS1 ?_
                  rotate_left
                  · (intro W hW; have q0 := hW.1.1.1; have q1 := hW.1.1.2.1; have q2 := hW.1.1.2.2.1; have q3 := hW.1.1.2.2.2; have q4 := hW.1.2.1; have q5 := hW.1.2.2.1; have q6 := hW.1.2.2.2; have q7 := hW.2.1.1; have q8 := hW.2.1.2; have q9 := hW.2.2.1; clear hW; go_simp; try with_reducible rfl)
                  refine gOne 9 rfl (by kernel_rfl) (by kernel_rfl) (fun K hK => ?_)
                  go_simp
                  skip
                  have hS2 := keepB hS1 (below_box w2 (.cells #[.int .i64 f, .int .i64 t] 2))
                  refine hK _ _ hS2 ?_
                  clear hK K
                  refine gOne 10 rfl (by kernel_rfl) (by kernel_rfl) (fun K hK => ?_)
                  go_simp
                  go_at_call 79
                  (with_reducible refine (ihj J _ _ cap f t _ _ h1 hj _ (row_al _ _ _ _ _)).mono ?_)
                  rintro e w3 ⟨rfl, hb3⟩
                  try go_simp
                  have hS3 := keepB hS2 hb3
                  refine hK _ _ hS3 ?_
                  clear hK K
                  refine gTake 11 (v := ?_) rfl (by kernel_rfl) (by kernel_rfl) (by kernel_rfl) (fun _ _ _ h => h) (by kernel_rfl) ?_ hS3 ?_
                  rotate_left
                  · (intro W hW; clear hW; go_simp; try with_reducible rfl)
                  refine gTake 12 (v := ?_) rfl (by kernel_rfl) (by kernel_rfl) (by kernel_rfl) (fun _ _ _ h => h) (by kernel_rfl) ?_ hS3 ?_
                  rotate_left
                  · (intro W hW; clear hW; go_simp; try with_reducible rfl)
                  refine gTake 13 (v := ?_) rfl (by kernel_rfl) (by kernel_rfl) (by kernel_rfl) (fun _ _ _ h => h) (by kernel_rfl) ?_ hS3 ?_
                  rotate_left
                  · (intro W hW; clear hW; go_simp; try with_reducible rfl)
                  refine gTake 14 (v := ?_) rfl (by kernel_rfl) (by kernel_rfl) (by kernel_rfl) (fun _ _ _ h => h) (by kernel_rfl) ?_ hS3 ?_
                  rotate_left
                  · (intro W hW; clear hW; go_simp; try with_reducible rfl)
                  refine gTake 15 (v := ?_) rfl (by kernel_rfl) (by kernel_rfl) (by kernel_rfl) (fun _ _ _ h => h) (by kernel_rfl) ?_ hS3 ?_
                  rotate_left
                  · (intro W hW; clear hW; go_simp; try with_reducible rfl)
                  refine gTake 16 (v := ?_) rfl (by kernel_rfl) (by kernel_rfl) (by kernel_rfl) (fun _ _ _ h => h) (by kernel_rfl) ?_ hS3 ?_
                  rotate_left
                  · (intro W hW; clear hW; go_simp; try with_reducible rfl)
                  refine gTake 17 (v := ?_) rfl (by kernel_rfl) (by kernel_rfl) (by kernel_rfl) (fun _ _ _ h => h) (by kernel_rfl) ?_ hS3 ?_
                  rotate_left
                  · (intro W hW; clear hW; go_simp; try with_reducible rfl)
                  refine gTake 18 (v := ?_) rfl (by kernel_rfl) (by kernel_rfl) (by kernel_rfl) (fun _ _ _ h => h) (by kernel_rfl) ?_ hS3 ?_
                  rotate_left
                  · (intro W hW; have q0 := hW.1.1.1; have q1 := hW.1.1.2.1; have q2 := hW.1.1.2.2.1; have q3 := hW.1.1.2.2.2; have q4 := hW.1.2.1; have q5 := hW.1.2.2.1; have q6 := hW.1.2.2.2; have q7 := hW.2.1.1; have q8 := hW.2.1.2; have q9 := hW.2.2.1; clear hW; go_simp; try with_reducible rfl)
                  refine gTake 19 (v := ?_) rfl (by kernel_rfl) (by kernel_rfl) (by kernel_rfl) (fun _ _ _ h => h) (by kernel_rfl) ?_ hS3 ?_
                  rotate_left
                  · (intro W hW; clear hW; go_simp; try with_reducible rfl)
                  refine gTake 20 (v := ?_) rfl (by kernel_rfl) (by kernel_rfl) (by kernel_rfl) (fun _ _ _ h => h) (by kernel_rfl) ?_ hS3 ?_
                  rotate_left
                  · (intro W hW; have q0 := hW.1.1.1; have q1 := hW.1.1.2.1; have q2 := hW.1.1.2.2.1; have q3 := hW.1.1.2.2.2; have q4 := hW.1.2.1; have q5 := hW.1.2.2.1; have q6 := hW.1.2.2.2; have q7 := hW.2.1.1; have q8 := hW.2.1.2; have q9 := hW.2.2.1; clear hW; go_simp; try with_reducible rfl)
                  refine gTake 21 (v := ?_) rfl (by kernel_rfl) (by kernel_rfl) (by kernel_rfl) (fun _ _ _ h => h) (by kernel_rfl) ?_ hS3 ?_
                  rotate_left
                  · (intro W hW; clear hW; go_simp; try with_reducible rfl)
                  refine gTake 22 (v := ?_) rfl (by kernel_rfl) (by kernel_rfl) (by kernel_rfl) (fun _ _ _ h => h) (by kernel_rfl) ?_ hS3 ?_
                  rotate_left
                  · (intro W hW; clear hW; go_simp; try with_reducible rfl)
                  refine gTake 23 (v := ?_) rfl (by kernel_rfl) (by kernel_rfl) (by kernel_rfl) (fun _ _ _ h => h) (by kernel_rfl) ?_ hS3 ?_
                  rotate_left
                  · (intro W hW; clear hW; go_simp; try with_reducible rfl)
                  refine gTake 24 (v := ?_) rfl (by kernel_rfl) (by kernel_rfl) (by kernel_rfl) (fun _ _ _ h => h) (by kernel_rfl) ?_ hS3 ?_
                  rotate_left
                  · (intro W hW; clear hW; go_simp; try with_reducible rfl)
                  refine gTake 25 (v := ?_) rfl (by kernel_rfl) (by kernel_rfl) (by kernel_rfl) (fun _ _ _ h => h) (by kernel_rfl) ?_ hS3 ?_
                  rotate_left
                  · (intro W hW; have q0 := hW.1.1.1; have q1 := hW.1.1.2.1; have q2 := hW.1.1.2.2.1; have q3 := hW.1.1.2.2.2; have q4 := hW.1.2.1; have q5 := hW.1.2.2.1; have q6 := hW.1.2.2.2; have q7 := hW.2.1.1; have q8 := hW.2.1.2; have q9 := hW.2.2.1; clear hW; go_simp; try with_reducible rfl)
                  refine gTake 26 (v := ?_) rfl (by kernel_rfl) (by kernel_rfl) (by kernel_rfl) (fun _ _ _ h => h) (by kernel_rfl) ?_ hS3 ?_
                  rotate_left
                  · (intro W hW; clear hW; go_simp; try with_reducible rfl)
                  refine gTake 27 (v := ?_) rfl (by kernel_rfl) (by kernel_rfl) (by kernel_rfl) (fun _ _ _ h => h) (by kernel_rfl) ?_ hS3 ?_
                  rotate_left
                  · (intro W hW; clear hW; go_simp; try with_reducible rfl)
                  refine gTake 28 (v := ?_) rfl (by kernel_rfl) (by kernel_rfl) (by kernel_rfl) (fun _ _ _ h => h) (by kernel_rfl) ?_ hS3 ?_
                  rotate_left
                  · (intro W hW; clear hW; go_simp; try with_reducible rfl)
                  refine wpAnyH_done (by kernel_rfl) ?_ _
                  go_simp
                  go_wp2
                  go_ret
                  exact ⟨ret_bool HE.out.symm, HBW.out.trans (((below_box wo (.cells #[.string s, .int .i64 f, .int .i64 t, .int .i64 l, .int .i64 se, .int .i64 fr, .int .i64 sh] 103)).trans (hS3.2.2.2.mono (by simp))).mono HBW.out.size)⟩
                · have hq := HT.out
                  rw [hls] at hq
                  replace hq : (Op.bytesLess s.toList ps.toList || s.toList == ps.toList) = false := hq.symm
                  have HE := Lib.hid (show upTo J xs ((k + 1) + 1) = true by rw [upTo, HU.out, Bool.true_and]; unfold stepOk; rw [HX.out, Nat.add_sub_cancel, HX2.out]; simp only [Aw.ok, hok, Bool.true_and]; rw [hj, hls]; simp)
                  refine wp_region_held (S := fun w' => ((w'.cell? ⟨wo.heap.size, 0, none⟩ = some (.string s) ∧ w'.cell? ⟨wo.heap.size, 1, none⟩ = some (.int .i64 f) ∧ w'.cell? ⟨wo.heap.size, 2, none⟩ = some (.int .i64 t) ∧ w'.cell? ⟨wo.heap.size, 3, none⟩ = some (.int .i64 l)) ∧ w'.cell? ⟨wo.heap.size, 4, none⟩ = some (.int .i64 se) ∧ w'.cell? ⟨wo.heap.size, 5, none⟩ = some (.int .i64 fr) ∧ w'.cell? ⟨wo.heap.size, 6, none⟩ = some (.int .i64 sh)) ∧ (w'.cell? ⟨w.heap.size, 0, none⟩ = some (.int .i64 J) ∧ w'.cell? ⟨w.heap.size, 1, none⟩ = some (.slice (some ⟨b', off, none⟩) xs.length cap)) ∧ w'.cell? ⟨b', off + k * 7, none⟩ = some (.string ps) ∧ Below (wo.alloc (.cells #[.string s, .int .i64 f, .int .i64 t, .int .i64 l, .int .i64 se, .int .i64 fr, .int .i64 sh] 103)).heap.size (wo.alloc (.cells #[.string s, .int .i64 f, .int .i64 t, .int .i64 l, .int .i64 se, .int .i64 fr, .int .i64 sh] 103)) w') (by kernel_rfl) ?_
                  try (change wpAnyH _ _ _ _ _ _ _ _ (World.drew _))
                  have hS0 := HKp.out
                  refine gTake 0 (v := ?_) rfl (by kernel_rfl) (by kernel_rfl) (by kernel_rfl) (fun _ _ _ h => h) (by kernel_rfl) ?_ hS0 ?_
                  rotate_left
                  · (intro W hW; have q0 := hW.1.1.1; have q1 := hW.1.1.2.1; have q2 := hW.1.1.2.2.1; have q3 := hW.1.1.2.2.2; have q4 := hW.1.2.1; have q5 := hW.1.2.2.1; have q6 := hW.1.2.2.2; have q7 := hW.2.1.1; have q8 := hW.2.1.2; have q9 := hW.2.2.1; clear hW; go_simp; try with_reducible rfl)
                  refine gOne 1 rfl (by kernel_rfl) (by kernel_rfl) (fun K hK => ?_)
                  go_simp
                  go_at_call 78
                  (with_reducible refine (ivA s f t l se fr sh _ _ hss hok).mono ?_)
                  rintro e w2 ⟨rfl, hb2⟩
                  try go_simp
                  have hS1 := keepB hS0 hb2
                  refine hK _ _ hS1 ?_
                  clear hK K
                  refine gTake 2 (v := ?_) rfl (by kernel_rfl) (by kernel_rfl) (by kernel_rfl) (fun _ _ _ h => h) (by kernel_rfl) ?_ hS1 ?_
                  rotate_left
                  · (intro W hW; clear hW; go_simp; try with_reducible rfl)
                  refine gTake 3 (v := ?_) rfl (by kernel_rfl) (by kernel_rfl) (by kernel_rfl) (fun _ _ _ h => h) (by kernel_rfl) ?_ hS1 ?_
                  rotate_left
                  · (intro W hW; clear hW; go_simp; try with_reducible rfl)
                  refine gTake 4 (v := ?_) rfl (by kernel_rfl) (by kernel_rfl) (by kernel_rfl) (fun _ _ _ h => h) (by kernel_rfl) ?_ hS1 ?_
                  rotate_left
                  · (intro W hW; have q0 := hW.1.1.1; have q1 := hW.1.1.2.1; have q2 := hW.1.1.2.2.1; have q3 := hW.1.1.2.2.2; have q4 := hW.1.2.1; have q5 := hW.1.2.2.1; have q6 := hW.1.2.2.2; have q7 := hW.2.1.1; have q8 := hW.2.1.2; have q9 := hW.2.2.1; clear hW; go_simp; try with_reducible rfl)
                  refine gTake 5 (v := ?_) rfl (by kernel_rfl) (by kernel_rfl) (by kernel_rfl) (fun _ _ _ h => h) (by kernel_rfl) ?_ hS1 ?_
                  rotate_left
                  · (intro W hW; clear hW; go_simp; try with_reducible rfl)
                  refine gTake 6 (v := ?_) rfl (by kernel_rfl) (by kernel_rfl) (by kernel_rfl) (fun _ _ _ h => h) (by kernel_rfl) ?_ hS1 ?_
                  rotate_left
                  · (intro W hW; have q0 := hW.1.1.1; have q1 := hW.1.1.2.1; have q2 := hW.1.1.2.2.1; have q3 := hW.1.1.2.2.2; have q4 := hW.1.2.1; have q5 := hW.1.2.2.1; have q6 := hW.1.2.2.2; have q7 := hW.2.1.1; have q8 := hW.2.1.2; have q9 := hW.2.2.1; clear hW; go_simp; try with_reducible rfl)
                  refine gTake 7 (v := ?_) rfl (by kernel_rfl) (by kernel_rfl) (by kernel_rfl) (fun _ _ _ h => h) (by kernel_rfl) ?_ hS1 ?_
                  rotate_left
                  · (intro W hW; clear hW; go_simp; try with_reducible rfl)
                  refine gTake 8 (v := ?_) rfl (by kernel_rfl) (by kernel_rfl) (by kernel_rfl) (fun _ _ _ h => h) (by kernel_rfl) ?_ hS1 ?_
                  rotate_left
                  · (intro W hW; have q0 := hW.1.1.1; have q1 := hW.1.1.2.1; have q2 := hW.1.1.2.2.1; have q3 := hW.1.1.2.2.2; have q4 := hW.1.2.1; have q5 := hW.1.2.2.1; have q6 := hW.1.2.2.2; have q7 := hW.2.1.1; have q8 := hW.2.1.2; have q9 := hW.2.2.1; clear hW; go_simp; try with_reducible rfl)
                  refine gOne 9 rfl (by kernel_rfl) (by kernel_rfl) (fun K hK => ?_)
                  go_simp
                  skip
                  have hS2 := keepB hS1 (below_box w2 (.cells #[.int .i64 f, .int .i64 t] 2))
                  refine hK _ _ hS2 ?_
                  clear hK K
                  refine gOne 10 rfl (by kernel_rfl) (by kernel_rfl) (fun K hK => ?_)
                  go_simp
                  go_at_call 79
                  (with_reducible refine (ihj J _ _ cap f t _ _ h1 hj _ (row_al _ _ _ _ _)).mono ?_)
                  rintro e w3 ⟨rfl, hb3⟩
                  try go_simp
                  have hS3 := keepB hS2 hb3
                  refine hK _ _ hS3 ?_
                  clear hK K
                  refine gTake 11 (v := ?_) rfl (by kernel_rfl) (by kernel_rfl) (by kernel_rfl) (fun _ _ _ h => h) (by kernel_rfl) ?_ hS3 ?_
                  rotate_left
                  · (intro W hW; clear hW; go_simp; try with_reducible rfl)
                  refine gTake 12 (v := ?_) rfl (by kernel_rfl) (by kernel_rfl) (by kernel_rfl) (fun _ _ _ h => h) (by kernel_rfl) ?_ hS3 ?_
                  rotate_left
                  · (intro W hW; clear hW; go_simp; try with_reducible rfl)
                  refine gTake 13 (v := ?_) rfl (by kernel_rfl) (by kernel_rfl) (by kernel_rfl) (fun _ _ _ h => h) (by kernel_rfl) ?_ hS3 ?_
                  rotate_left
                  · (intro W hW; clear hW; go_simp; try with_reducible rfl)
                  refine gTake 14 (v := ?_) rfl (by kernel_rfl) (by kernel_rfl) (by kernel_rfl) (fun _ _ _ h => h) (by kernel_rfl) ?_ hS3 ?_
                  rotate_left
                  · (intro W hW; clear hW; go_simp; try with_reducible rfl)
                  refine gTake 15 (v := ?_) rfl (by kernel_rfl) (by kernel_rfl) (by kernel_rfl) (fun _ _ _ h => h) (by kernel_rfl) ?_ hS3 ?_
                  rotate_left
                  · (intro W hW; clear hW; go_simp; try with_reducible rfl)
                  refine gTake 16 (v := ?_) rfl (by kernel_rfl) (by kernel_rfl) (by kernel_rfl) (fun _ _ _ h => h) (by kernel_rfl) ?_ hS3 ?_
                  rotate_left
                  · (intro W hW; clear hW; go_simp; try with_reducible rfl)
                  refine gTake 17 (v := ?_) rfl (by kernel_rfl) (by kernel_rfl) (by kernel_rfl) (fun _ _ _ h => h) (by kernel_rfl) ?_ hS3 ?_
                  rotate_left
                  · (intro W hW; clear hW; go_simp; try with_reducible rfl)
                  refine gTake 18 (v := ?_) rfl (by kernel_rfl) (by kernel_rfl) (by kernel_rfl) (fun _ _ _ h => h) (by kernel_rfl) ?_ hS3 ?_
                  rotate_left
                  · (intro W hW; have q0 := hW.1.1.1; have q1 := hW.1.1.2.1; have q2 := hW.1.1.2.2.1; have q3 := hW.1.1.2.2.2; have q4 := hW.1.2.1; have q5 := hW.1.2.2.1; have q6 := hW.1.2.2.2; have q7 := hW.2.1.1; have q8 := hW.2.1.2; have q9 := hW.2.2.1; clear hW; go_simp; try with_reducible rfl)
                  refine gTake 19 (v := ?_) rfl (by kernel_rfl) (by kernel_rfl) (by kernel_rfl) (fun _ _ _ h => h) (by kernel_rfl) ?_ hS3 ?_
                  rotate_left
                  · (intro W hW; clear hW; go_simp; try with_reducible rfl)
                  refine gTake 20 (v := ?_) rfl (by kernel_rfl) (by kernel_rfl) (by kernel_rfl) (fun _ _ _ h => h) (by kernel_rfl) ?_ hS3 ?_
                  rotate_left
                  · (intro W hW; have q0 := hW.1.1.1; have q1 := hW.1.1.2.1; have q2 := hW.1.1.2.2.1; have q3 := hW.1.1.2.2.2; have q4 := hW.1.2.1; have q5 := hW.1.2.2.1; have q6 := hW.1.2.2.2; have q7 := hW.2.1.1; have q8 := hW.2.1.2; have q9 := hW.2.2.1; clear hW; go_simp; try with_reducible rfl)
                  refine gTake 21 (v := ?_) rfl (by kernel_rfl) (by kernel_rfl) (by kernel_rfl) (fun _ _ _ h => h) (by kernel_rfl) ?_ hS3 ?_
                  rotate_left
                  · (intro W hW; clear hW; go_simp; try with_reducible rfl)
                  refine gTake 22 (v := ?_) rfl (by kernel_rfl) (by kernel_rfl) (by kernel_rfl) (fun _ _ _ h => h) (by kernel_rfl) ?_ hS3 ?_
                  rotate_left
                  · (intro W hW; clear hW; go_simp; try with_reducible rfl)
                  refine gTake 23 (v := ?_) rfl (by kernel_rfl) (by kernel_rfl) (by kernel_rfl) (fun _ _ _ h => h) (by kernel_rfl) ?_ hS3 ?_
                  rotate_left
                  · (intro W hW; clear hW; go_simp; try with_reducible rfl)
                  refine gTake 24 (v := ?_) rfl (by kernel_rfl) (by kernel_rfl) (by kernel_rfl) (fun _ _ _ h => h) (by kernel_rfl) ?_ hS3 ?_
                  rotate_left
                  · (intro W hW; clear hW; go_simp; try with_reducible rfl)
                  refine gTake 25 (v := ?_) rfl (by kernel_rfl) (by kernel_rfl) (by kernel_rfl) (fun _ _ _ h => h) (by kernel_rfl) ?_ hS3 ?_
                  rotate_left
                  · (intro W hW; have q0 := hW.1.1.1; have q1 := hW.1.1.2.1; have q2 := hW.1.1.2.2.1; have q3 := hW.1.1.2.2.2; have q4 := hW.1.2.1; have q5 := hW.1.2.2.1; have q6 := hW.1.2.2.2; have q7 := hW.2.1.1; have q8 := hW.2.1.2; have q9 := hW.2.2.1; clear hW; go_simp; try with_reducible rfl)
                  refine gTake 26 (v := ?_) rfl (by kernel_rfl) (by kernel_rfl) (by kernel_rfl) (fun _ _ _ h => h) (by kernel_rfl) ?_ hS3 ?_
                  rotate_left
                  · (intro W hW; clear hW; go_simp; try with_reducible rfl)
                  refine gTake 27 (v := ?_) rfl (by kernel_rfl) (by kernel_rfl) (by kernel_rfl) (fun _ _ _ h => h) (by kernel_rfl) ?_ hS3 ?_
                  rotate_left
                  · (intro W hW; clear hW; go_simp; try with_reducible rfl)
                  refine gTake 28 (v := ?_) rfl (by kernel_rfl) (by kernel_rfl) (by kernel_rfl) (fun _ _ _ h => h) (by kernel_rfl) ?_ hS3 ?_
                  rotate_left
                  · (intro W hW; clear hW; go_simp; try with_reducible rfl)
                  refine wpAnyH_done (by kernel_rfl) ?_ _
                  go_simp
                  go_wp2
                  go_roundw
                  case rel => exact ⟨(k + 1) + 1, by omega, by go_num, hbel.trans (((below_box wo (.cells #[.string s, .int .i64 f, .int .i64 t, .int .i64 l, .int .i64 se, .int .i64 fr, .int .i64 sh] 103)).trans (hS3.2.2.2.mono (by simp))).mono hbel.size), HE⟩
                  case measure => simp [intOf]; omega
        · obtain rfl : k = xs.length := by omega
          have HE := Lib.hid (show mineOk J xs = true by rw [HM.out, HU.out])
          go_wp2
          go_ret
          exact ⟨ret_bool HE.out.symm, HBW.out⟩
    · have t1 : (24 : Int) < (xs.length : Int) := by omega
      have HE := Lib.hid (show mineOk J xs = false by unfold mineOk; rw [decide_eq_false h24, Bool.and_false])
      clear hr hs
      go_enter Try.func44, Try.ntmps44
      go_wp2_with (go_at_call 54; (with_reducible refine (within64_one _ _ _ _ _ _ (by simp)).mono ?_); rintro e w' ⟨rfl, rfl⟩)
      go_ret
      exact ⟨ret_bool HE.out.symm, (below_box _ _).alloc (by simp) _⟩
  · have i1 := inB_false h1
    have HE := Lib.hid (show mineOk J xs = false by unfold mineOk; rw [i1, Bool.false_and, Bool.false_and])
    clear hr hs
    go_enter Try.func44, Try.ntmps44
    go_wp2_with (go_at_call 54; (with_reducible refine (within64_one _ _ _ _ _ _ (by simp)).mono ?_); rintro e w' ⟨rfl, rfl⟩)
    go_ret
    exact ⟨ret_bool HE.out.symm, (below_box _ _).alloc (by simp) _⟩
end Go.Proofs.Ythbofhlfggkolaa
