/-
  Contracts of chapter 4: the airways at a junction; the model's and the program's. Conditions: those that each theorem states.
-/
import Derived.Test.YtjooebiiceillaaGf
import Derived.Test.YtjooebiiceillaaNh
import Derived.Maps.AppendAt
import Derived.Maps.OwnSet
namespace Go.Proofs.Ytjooebiiceillaa
open Go.RowKit
set_option linter.unusedVariables false
set_option linter.unusedSimpArgs false

/-- Whether an airway ends at a junction. -/
def endB (f t x : Int) : Bool := f == x || t == x
def atTo (xs : List Aw) (x : Int) : Nat → List Int
  | 0 => []
  | k + 1 => if endB (xs.getD k Aw.none).f (xs.getD k Aw.none).t x then atTo xs x k ++ [(k : Int)] else atTo xs x k
theorem atTo_len (xs : List Aw) (x : Int) : ∀ k, (atTo xs x k).length ≤ k
  | 0 => Nat.le_refl _
  | k + 1 => by
    have := atTo_len xs x k
    rw [atTo]
    split
    · rw [List.length_append]; simp; omega
    · omega
theorem atTo_yes {xs : List Aw} {x : Int} {k : Nat} (hk : k < xs.length) (h : endB xs[k].f xs[k].t x = true) : atTo xs x (k + 1) = atTo xs x k ++ [(k : Int)] := by rw [atTo, getD_of_lt hk, h]; rfl
theorem atTo_no {xs : List Aw} {x : Int} {k : Nat} (hk : k < xs.length) (h : endB xs[k].f xs[k].t x = false) : atTo xs x (k + 1) = atTo xs x k := by rw [atTo, getD_of_lt hk, h]; rfl
theorem ints_snoc (l : List Int) (x : Int) : intsV (l ++ [x]) = intsV l ++ [.int .i64 x] := by simp [intsV]
theorem endsAt_any (s : ByteArray) (f t l se fr sh x : Int) (w : World) :
    Calls Try.prog 134 #[.agg #[.string s, .int .i64 f, .int .i64 t, .int .i64 l, .int .i64 se, .int .i64 fr, .int .i64 sh], .int .i64 x] w fun e w' => e = .returned (.bool (endB f t x)) ∧ Below w.heap.size w w' := by
  by_cases h1 : f = x
  · subst h1
    have HE := Lib.hid (show endB f t f = true by simp [endB])
    go_enter Try.func134, Try.ntmps134
    go_wp2
    go_ret
    exact ⟨ret_bool HE.out.symm, below_box _ _⟩
  · have h2 : (f == x) = false := by simpa using h1
    have HE := Lib.hid (show endB f t x = (t == x) by simp [endB, h2])
    clear h1
    go_enter Try.func134, Try.ntmps134
    go_wp2
    go_ret
    exact ⟨ret_bool HE.out.symm, below_box _ _⟩
theorem zeroBool (w : World) : (zeroValue 4).run Try.prog w = .ok (.bool false) w := by kernel_rfl
set_option maxRecDepth 100000 in
theorem isOpen_any (J k : Int) (A : Option Addr) (n cap : Nat) (w : World) (hk : 0 ≤ k ∧ k ≤ 1000000000) :
    Calls Try.prog 133 #[.agg #[.int .i64 J, .slice A n cap, (.map none)], .int .i64 k] w fun e w' => e = .returned (.bool true) ∧ Below w.heap.size w w' := by
  have hrun := fun W => Maps.look_nil (w := W) (P := Try.prog) false (Maps.int_keyed Try.underlying2) Try.underlying94 (zeroBool W) (Maps.keyOf_int_mk Try.underlying2 (a := k) (by simp [Lit.wf, IntKind.min, IntKind.max, IntKind.signed, IntKind.bits]; omega))
  replace hrun := hrun (w.alloc (.cells #[.int .i64 J, .slice A n cap, (.map none)] 96))
  simp only [Bool.false_eq_true, if_false] at hrun
  go_enter Try.func133, Try.ntmps133
  go_wp2
  go_ret
  exact ⟨by first | rfl | simp, below_box _ _⟩
theorem cellK1 {w w' : World} {a : Addr} {v : Value} (h : w.cell? a = some v) (hb : Below w.heap.size w w') : w'.cell? a = some v := (hb.cell (World.block_lt_of_cell? _ _ h)).trans h
set_option maxHeartbeats 2000000 in
theorem openAt1_any (bn bj g off n cap k : Nat) (J x : Int) (s : ByteArray) (f t l se fr sh : Int) (w : World) (hk : k < n) (hn : n ≤ 1048576) (hc : (w.cell? ⟨bn, 0, none⟩ = some (.int .i64 J) ∧ w.cell? ⟨bn, 1, none⟩ = some (.slice (some ⟨g, off, none⟩) n cap) ∧ w.cell? ⟨bn, 2, none⟩ = some (.map none) ∧ w.cell? ⟨bj, 0, none⟩ = some (.int .i64 x)) ∧ (w.cell? ⟨g, off + k * 7, none⟩ = some (.string s) ∧ w.cell? ⟨g, off + k * 7 + 1, none⟩ = some (.int .i64 f) ∧ w.cell? ⟨g, off + k * 7 + 2, none⟩ = some (.int .i64 t) ∧ w.cell? ⟨g, off + k * 7 + 3, none⟩ = some (.int .i64 l)) ∧ w.cell? ⟨g, off + k * 7 + 4, none⟩ = some (.int .i64 se) ∧ w.cell? ⟨g, off + k * 7 + 5, none⟩ = some (.int .i64 fr) ∧ w.cell? ⟨g, off + k * 7 + 6, none⟩ = some (.int .i64 sh)) :
    Calls Try.prog 132 #[.int .i64 (k : Int), .pointer (some ⟨bn, 0, none⟩), .pointer (some ⟨bj, 0, none⟩)] w fun e w' => e = .returned (.bool (endB f t x)) ∧ Below w.heap.size w w' := by
  have HC := Lib.hid hc
  obtain ⟨⟨n0, n1, n2, n3⟩, ⟨c0, c1, c2, c3⟩, c4, c5, c6⟩ := hc
  have t1 : (k : Int) < (n : Int) := by omega
  have t2 : 0 ≤ (k : Int) := by omega
  go_enter Try.func132, Try.ntmps132
  go_wp2_with fail
  refine wp_region_held (S := fun w' => ((w'.cell? ⟨bn, 0, none⟩ = some (.int .i64 J) ∧ w'.cell? ⟨bn, 1, none⟩ = some (.slice (some ⟨g, off, none⟩) n cap) ∧ w'.cell? ⟨bn, 2, none⟩ = some (.map none) ∧ w'.cell? ⟨bj, 0, none⟩ = some (.int .i64 x)) ∧ (w'.cell? ⟨g, off + k * 7, none⟩ = some (.string s) ∧ w'.cell? ⟨g, off + k * 7 + 1, none⟩ = some (.int .i64 f) ∧ w'.cell? ⟨g, off + k * 7 + 2, none⟩ = some (.int .i64 t) ∧ w'.cell? ⟨g, off + k * 7 + 3, none⟩ = some (.int .i64 l)) ∧ w'.cell? ⟨g, off + k * 7 + 4, none⟩ = some (.int .i64 se) ∧ w'.cell? ⟨g, off + k * 7 + 5, none⟩ = some (.int .i64 fr) ∧ w'.cell? ⟨g, off + k * 7 + 6, none⟩ = some (.int .i64 sh)) ∧ Below w.heap.size w w') (by kernel_rfl) ?_
  try (change wpAnyH _ _ _ _ _ _ _ _ (World.drew _))
  have hS0 := (show ((w.drew.cell? ⟨bn, 0, none⟩ = some (.int .i64 J) ∧ w.drew.cell? ⟨bn, 1, none⟩ = some (.slice (some ⟨g, off, none⟩) n cap) ∧ w.drew.cell? ⟨bn, 2, none⟩ = some (.map none) ∧ w.drew.cell? ⟨bj, 0, none⟩ = some (.int .i64 x)) ∧ (w.drew.cell? ⟨g, off + k * 7, none⟩ = some (.string s) ∧ w.drew.cell? ⟨g, off + k * 7 + 1, none⟩ = some (.int .i64 f) ∧ w.drew.cell? ⟨g, off + k * 7 + 2, none⟩ = some (.int .i64 t) ∧ w.drew.cell? ⟨g, off + k * 7 + 3, none⟩ = some (.int .i64 l)) ∧ w.drew.cell? ⟨g, off + k * 7 + 4, none⟩ = some (.int .i64 se) ∧ w.drew.cell? ⟨g, off + k * 7 + 5, none⟩ = some (.int .i64 fr) ∧ w.drew.cell? ⟨g, off + k * 7 + 6, none⟩ = some (.int .i64 sh)) ∧ Below w.heap.size w w.drew from ⟨HC.out, Below.drew (Below.refl _ _)⟩)
  refine gTake 0 (v := ?_) rfl (by kernel_rfl) (by kernel_rfl) (by kernel_rfl) (fun _ _ _ h => h) (by kernel_rfl) ?_ hS0 ?_
  rotate_left
  · (intro W hW; have q0 := hW.1.1.1; have q1 := hW.1.1.2.1; have q2 := hW.1.1.2.2.1; have q3 := hW.1.1.2.2.2; have q4 := hW.1.2.1.1; have q5 := hW.1.2.1.2.1; have q6 := hW.1.2.1.2.2.1; have q7 := hW.1.2.1.2.2.2; have q8 := hW.1.2.2.1; have q9 := hW.1.2.2.2.1; have q10 := hW.1.2.2.2.2; clear hW; go_simp; try with_reducible rfl)
  refine gTake 1 (v := ?_) rfl (by kernel_rfl) (by kernel_rfl) (by kernel_rfl) (fun _ _ _ h => h) (by kernel_rfl) ?_ hS0 ?_
  rotate_left
  · (intro W hW; clear hW; go_simp; try with_reducible rfl)
  refine gOne 2 rfl (by kernel_rfl) (by kernel_rfl) (fun K hK => ?_)
  go_simp
  go_at_call 133
  (with_reducible refine (isOpen_any J k (some ⟨g, off, none⟩) n cap _ ⟨by omega, by omega⟩).mono ?_)
  rintro e w2 ⟨rfl, hd2⟩
  try go_simp
  have hS1 := (show ((w2.cell? ⟨bn, 0, none⟩ = some (.int .i64 J) ∧ w2.cell? ⟨bn, 1, none⟩ = some (.slice (some ⟨g, off, none⟩) n cap) ∧ w2.cell? ⟨bn, 2, none⟩ = some (.map none) ∧ w2.cell? ⟨bj, 0, none⟩ = some (.int .i64 x)) ∧ (w2.cell? ⟨g, off + k * 7, none⟩ = some (.string s) ∧ w2.cell? ⟨g, off + k * 7 + 1, none⟩ = some (.int .i64 f) ∧ w2.cell? ⟨g, off + k * 7 + 2, none⟩ = some (.int .i64 t) ∧ w2.cell? ⟨g, off + k * 7 + 3, none⟩ = some (.int .i64 l)) ∧ w2.cell? ⟨g, off + k * 7 + 4, none⟩ = some (.int .i64 se) ∧ w2.cell? ⟨g, off + k * 7 + 5, none⟩ = some (.int .i64 fr) ∧ w2.cell? ⟨g, off + k * 7 + 6, none⟩ = some (.int .i64 sh)) ∧ Below w.heap.size w w2 from ⟨⟨⟨cellK1 hS0.1.1.1 hd2, cellK1 hS0.1.1.2.1 hd2, cellK1 hS0.1.1.2.2.1 hd2, cellK1 hS0.1.1.2.2.2 hd2⟩, ⟨cellK1 hS0.1.2.1.1 hd2, cellK1 hS0.1.2.1.2.1 hd2, cellK1 hS0.1.2.1.2.2.1 hd2, cellK1 hS0.1.2.1.2.2.2 hd2⟩, cellK1 hS0.1.2.2.1 hd2, cellK1 hS0.1.2.2.2.1 hd2, cellK1 hS0.1.2.2.2.2 hd2⟩, hS0.2.trans (hd2.mono hS0.2.size)⟩)
  refine hK _ _ hS1 ?_
  clear hK K
  refine gTake 3 (v := ?_) rfl (by kernel_rfl) (by kernel_rfl) (by kernel_rfl) (fun _ _ _ h => h) (by kernel_rfl) ?_ hS1 ?_
  rotate_left
  · (intro W hW; clear hW; go_simp; try with_reducible rfl)
  refine gTake 4 (v := ?_) rfl (by kernel_rfl) (by kernel_rfl) (by kernel_rfl) (fun _ _ _ h => h) (by kernel_rfl) ?_ hS1 ?_
  rotate_left
  · (intro W hW; clear hW; go_simp; try with_reducible rfl)
  refine gTake 5 (v := ?_) rfl (by kernel_rfl) (by kernel_rfl) (by kernel_rfl) (fun _ _ _ h => h) (by kernel_rfl) ?_ hS1 ?_
  rotate_left
  · (intro W hW; clear hW; go_simp; try with_reducible rfl)
  refine gTake 6 (v := ?_) rfl (by kernel_rfl) (by kernel_rfl) (by kernel_rfl) (fun _ _ _ h => h) (by kernel_rfl) ?_ hS1 ?_
  rotate_left
  · (intro W hW; have q0 := hW.1.1.1; have q1 := hW.1.1.2.1; have q2 := hW.1.1.2.2.1; have q3 := hW.1.1.2.2.2; have q4 := hW.1.2.1.1; have q5 := hW.1.2.1.2.1; have q6 := hW.1.2.1.2.2.1; have q7 := hW.1.2.1.2.2.2; have q8 := hW.1.2.2.1; have q9 := hW.1.2.2.2.1; have q10 := hW.1.2.2.2.2; clear hW; go_simp; try with_reducible rfl)
  refine gTake 7 (v := ?_) rfl (by kernel_rfl) (by kernel_rfl) (by kernel_rfl) (fun _ _ _ h => h) (by kernel_rfl) ?_ hS1 ?_
  rotate_left
  · (intro W hW; clear hW; go_simp; try with_reducible rfl)
  refine gTake 8 (v := ?_) rfl (by kernel_rfl) (by kernel_rfl) (by kernel_rfl) (fun _ _ _ h => h) (by kernel_rfl) ?_ hS1 ?_
  rotate_left
  · (intro W hW; clear hW; go_simp; try with_reducible rfl)
  refine gTake 9 (v := ?_) rfl (by kernel_rfl) (by kernel_rfl) (by kernel_rfl) (fun _ _ _ h => h) (by kernel_rfl) ?_ hS1 ?_
  rotate_left
  · (intro W hW; have q0 := hW.1.1.1; have q1 := hW.1.1.2.1; have q2 := hW.1.1.2.2.1; have q3 := hW.1.1.2.2.2; have q4 := hW.1.2.1.1; have q5 := hW.1.2.1.2.1; have q6 := hW.1.2.1.2.2.1; have q7 := hW.1.2.1.2.2.2; have q8 := hW.1.2.2.1; have q9 := hW.1.2.2.2.1; have q10 := hW.1.2.2.2.2; clear hW; go_simp; try with_reducible rfl)
  refine gTake 10 (v := ?_) rfl (by kernel_rfl) (by kernel_rfl) (by kernel_rfl) (fun _ _ _ h => h) (by kernel_rfl) ?_ hS1 ?_
  rotate_left
  · (intro W hW; have q0 := hW.1.1.1; have q1 := hW.1.1.2.1; have q2 := hW.1.1.2.2.1; have q3 := hW.1.1.2.2.2; have q4 := hW.1.2.1.1; have q5 := hW.1.2.1.2.1; have q6 := hW.1.2.1.2.2.1; have q7 := hW.1.2.1.2.2.2; have q8 := hW.1.2.2.1; have q9 := hW.1.2.2.2.1; have q10 := hW.1.2.2.2.2; clear hW; go_simp; try with_reducible rfl)
  refine gOne 11 rfl (by kernel_rfl) (by kernel_rfl) (fun K hK => ?_)
  go_simp
  go_at_call 134
  (with_reducible refine (endsAt_any s f t l se fr sh x _).mono ?_)
  rintro e w3 ⟨rfl, hd3⟩
  try go_simp
  have hS2 := (show ((w3.cell? ⟨bn, 0, none⟩ = some (.int .i64 J) ∧ w3.cell? ⟨bn, 1, none⟩ = some (.slice (some ⟨g, off, none⟩) n cap) ∧ w3.cell? ⟨bn, 2, none⟩ = some (.map none) ∧ w3.cell? ⟨bj, 0, none⟩ = some (.int .i64 x)) ∧ (w3.cell? ⟨g, off + k * 7, none⟩ = some (.string s) ∧ w3.cell? ⟨g, off + k * 7 + 1, none⟩ = some (.int .i64 f) ∧ w3.cell? ⟨g, off + k * 7 + 2, none⟩ = some (.int .i64 t) ∧ w3.cell? ⟨g, off + k * 7 + 3, none⟩ = some (.int .i64 l)) ∧ w3.cell? ⟨g, off + k * 7 + 4, none⟩ = some (.int .i64 se) ∧ w3.cell? ⟨g, off + k * 7 + 5, none⟩ = some (.int .i64 fr) ∧ w3.cell? ⟨g, off + k * 7 + 6, none⟩ = some (.int .i64 sh)) ∧ Below w.heap.size w w3 from ⟨⟨⟨cellK1 hS1.1.1.1 hd3, cellK1 hS1.1.1.2.1 hd3, cellK1 hS1.1.1.2.2.1 hd3, cellK1 hS1.1.1.2.2.2 hd3⟩, ⟨cellK1 hS1.1.2.1.1 hd3, cellK1 hS1.1.2.1.2.1 hd3, cellK1 hS1.1.2.1.2.2.1 hd3, cellK1 hS1.1.2.1.2.2.2 hd3⟩, cellK1 hS1.1.2.2.1 hd3, cellK1 hS1.1.2.2.2.1 hd3, cellK1 hS1.1.2.2.2.2 hd3⟩, hS1.2.trans (hd3.mono hS1.2.size)⟩)
  refine hK _ _ hS2 ?_
  clear hK K
  refine gTake 12 (v := ?_) rfl (by kernel_rfl) (by kernel_rfl) (by kernel_rfl) (fun _ _ _ h => h) (by kernel_rfl) ?_ hS2 ?_
  rotate_left
  · (intro W hW; clear hW; go_simp; try with_reducible rfl)
  refine gTake 13 (v := ?_) rfl (by kernel_rfl) (by kernel_rfl) (by kernel_rfl) (fun _ _ _ h => h) (by kernel_rfl) ?_ hS2 ?_
  rotate_left
  · (intro W hW; clear hW; go_simp; try with_reducible rfl)
  refine wpAnyH_done (by kernel_rfl) ?_ _
  go_simp
  go_wp2
  go_ret
  exact ⟨by first | rfl | simp, hS2.2⟩
theorem below_w {w0 w w' : World} (h : Below w0.heap.size w0 w) (h2 : Below w.heap.size w w') : Below w0.heap.size w0 w' := h.trans (h2.mono h.size)
set_option maxHeartbeats 4000000 in
set_option maxRecDepth 100000 in
theorem airwaysThat_any (bn bj n cap : Nat) (J x : Int) (A : Option Addr) (xs : List Aw) (w : World) (hx : xs.length = n) (hn : n ≤ 1048576) (hc : (w.cell? ⟨bn, 0, none⟩ = some (.int .i64 J) ∧ w.cell? ⟨bn, 1, none⟩ = some (.slice A n cap) ∧ w.cell? ⟨bn, 2, none⟩ = some (.map none) ∧ w.cell? ⟨bj, 0, none⟩ = some (.int .i64 x))) (hr : AwR w A xs) :
    Calls Try.prog 91 #[.agg #[.int .i64 J, .slice A n cap], .func (.func 132) #[] #[.pointer (some ⟨bn, 0, none⟩), .pointer (some ⟨bj, 0, none⟩)]] w fun e w' => ∃ v, e = .returned v ∧ OwnI w' w.heap.size v (atTo xs x n) ∧ Below w.heap.size w w' := by
  have HC := Lib.hid hc
  have HR := Lib.hid hr
  obtain ⟨i0, hi, hz0, hz1, hz2⟩ := info_parts info_i64
  have HB0 := Lib.hid (below_box w (.cells #[.int .i64 J, .slice A n cap] 36))
  clear hc hr
  go_enter Try.func91, Try.ntmps91
  go_wp2
  go_loopw [5, 10] (fun out i wr => ∃ k : Nat, k ≤ n ∧ i = .int .i64 k ∧ wr.ownsRow w.heap.size 2 1 out (atTo xs x k).length (intsV (atTo xs x k)) ∧ Below w.heap.size w wr) (fun out i wr => n - (intOf i).toNat)
  case atStart => exact ⟨0, by omega, rfl, World.ownsRow_nil _ _ _ _, HB0.out⟩
  case round =>
    obtain ⟨k, hk, rfl, hown, hbel⟩ := hrel
    by_cases hlt : k < n
    · have hlx : k < xs.length := by omega
      obtain ⟨g, off, rfl, hrg⟩ := HR.out.below hbel k hlx
      have hct := lay_row hrg
      have hcn := HC.out
      have hcw : (wr.cell? ⟨bn, 0, none⟩ = some (.int .i64 J) ∧ wr.cell? ⟨bn, 1, none⟩ = some (.slice (some ⟨g, off, none⟩) n cap) ∧ wr.cell? ⟨bn, 2, none⟩ = some (.map none) ∧ wr.cell? ⟨bj, 0, none⟩ = some (.int .i64 x)) := ⟨cellK1 hcn.1 (hbel.mono (Nat.le_refl _)), cellK1 hcn.2.1 hbel, cellK1 hcn.2.2.1 hbel, cellK1 hcn.2.2.2 hbel⟩
      have hy := fun h => atTo_yes (x := x) hlx h
      have hno := fun h => atTo_no (x := x) hlx h
      have hll := atTo_len xs x k
      generalize xs[k] = a at *
      obtain ⟨s, f, t, l, se, fr, sh⟩ := a
      dsimp only at hct hy hno
      have HF := Lib.hid (openAt1_any bn bj g off n cap k J x s f t l se fr sh wr hlt hn ⟨hcw, hct⟩)
      have HO := Lib.hid hown
      have HBL := Lib.hid hbel
      have hwr : w.heap.size ≤ wr.heap.size := hbel.size
      clear hown hbel hct hcw hcn hrg
      cases he : endB f t x
      · rw [he] at HF
        have HN := Lib.hid (hno he)
        clear hy hno he
        go_wp2_with fail
        (with_reducible refine (HF.out).mono ?_)
        rintro e w2 ⟨rfl, hb2⟩
        have HO2 := Lib.hid (own_below HO.out hb2)
        have HB2 := Lib.hid (below_w HBL.out hb2)
        clear hb2
        go_wp2
        go_roundw
        case rel => exact ⟨k + 1, by omega, by go_num, by rw [HN.out]; exact HO2.out, HB2.out⟩
        case measure => simp [intOf]; omega
      · rw [he] at HF
        have HN := Lib.hid (hy he)
        clear hy hno he
        go_wp2_with fail
        (with_reducible refine (HF.out).mono ?_)
        rintro e w2 ⟨rfl, hb2⟩
        have HO2 := Lib.hid (own_below HO.out hb2)
        have HB2 := Lib.hid (below_w HBL.out hb2)
        have hw2 : w.heap.size ≤ w2.heap.size := HB2.out.size
        clear hb2
        go_wp2_with (first
          | (at_builtin; refine wpList_append_own_at _ rfl _ _ 30 rfl w.heap.size 2 i0 (.int .i64 0) 1 8 Try.underlying30 hi hz0 hz1 hz2 rfl (by decide) _ _ _ rfl (HO2.out.alloc _) ⟨w2.heap.size, 0, none⟩ 1 1 [.int .i64 (k)] rfl rfl ?c1z ?c2z ?c3z ?c4z ?c5z ?_))
        case c1z => intro j u hj; match j, hj with | 0, hj => (simp at hj; subst hj; simp [Addr.add]) | j + 1, hj => (simp at hj)
        case c2z => simp [Value.oneCell']
        case c3z => unfold maxLen; omega
        case c4z => omega
        case c5z => (simp; omega)
        intro v3 w3 ho3 hg3 _ hl3
        have HO3 := Lib.hid ho3
        have HB3 := Lib.hid ((HB2.out.alloc HB2.out.size _).grown hg3 (by simp; omega) (fun k hk => (HO2.out.lt k hk).1))
        clear ho3 hg3 hl3
        go_wp2
        go_roundw
        case rel => exact ⟨k + 1, by omega, by go_num, by rw [HN.out, ints_snoc, List.length_append]; exact HO3.out, HB3.out⟩
        case measure => simp [intOf]; omega
    · obtain rfl : k = n := by omega
      have HO := Lib.hid hown
      have HBL := Lib.hid hbel
      clear hown hbel
      go_wp2
      go_ret
      exact ⟨_, rfl, HO.out, HBL.out⟩
end Go.Proofs.Ytjooebiiceillaa
