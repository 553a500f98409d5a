/-
  Contracts of chapter 4: the text of a mine; the model's and the program's. Conditions: those that each theorem states.
-/
import Derived.Test.YtofpecgmnodflaaDoorAt
import Derived.Test.YtofpecgmnodflaaDoorGf
import Derived.Maps.AppendAt
namespace Go.Proofs.YtofpecgmnodflaaDoor
open Go.RowKit
set_option linter.unusedVariables false
set_option linter.unusedSimpArgs false

theorem awLtO {w : World} {b o : Nat} {s : ByteArray} {f t l se fr sh : Int} (h : AwAtO w b o s f t l se fr sh) : b < w.heap.size := World.block_lt_of_cell? _ _ h.1.1
theorem AwAtO.lower {w w' : World} {b o : Nat} {s : ByteArray} {f t l se fr sh : Int} (h : AwAtO w b o s f t l se fr sh) (hb : Below w.heap.size w w') (hs : b < w.heap.size) : AwAtO w' b o s f t l se fr sh := by
  obtain ⟨⟨c0, c1, c2, c3⟩, c4, c5, c6⟩ := h
  have hc := (bcell hb).1
  exact ⟨⟨(hc _ _ hs).trans c0, (hc _ _ hs).trans c1, (hc _ _ hs).trans c2, (hc _ _ hs).trans c3⟩, (hc _ _ hs).trans c4, (hc _ _ hs).trans c5, (hc _ _ hs).trans c6⟩
set_option maxHeartbeats 2000000 in
theorem l03TextO_any (b o : Nat) (s : ByteArray) (f t l se fr sh : Int) (w : World) (hok : awOk s f t l se fr sh = true) (hc : AwAtO w b o s f t l se fr sh) :
    Calls Tryd.prog 55 #[.pointer (some ⟨b, o, none⟩)] w fun e w' => e = .returned (.string (s ++ ⟨#[32]⟩ ++ ⟨(commas [f, t, l, se, fr, sh]).toArray⟩)) ∧ Below w.heap.size w w' := by
  have hs := isNm_size (awOk_bd hok).1.1
  have hfi := aw_in hok
  obtain ⟨hr, -⟩ := fitsL_iff.1 hfi
  have hl := commas_len [f, t, l, se, fr, sh] (fun y hy => by have := hr y hy; omega)
  have HL := Lib.hid (fun v W (hrow : Row .i64 W v [f, t, l, se, fr, sh]) => l01List_any v [f, t, l, se, fr, sh] W hrow (by simp) (by simp) (fun y hy => by have := hr y hy; omega))
  obtain ⟨L, hL⟩ : ∃ L, commas [f, t, l, se, fr, sh] = L := ⟨_, rfl⟩
  rw [hL] at hl HL ⊢
  clear hL hr hfi
  have hl2 : (⟨L.toArray⟩ : ByteArray).size ≤ 2000 := by
    have : L.length ≤ 2000 := by simp at hl; omega
    show L.toArray.size ≤ 2000; simpa using this
  have hs2 : (s ++ (⟨#[32]⟩ : ByteArray)).size ≤ 11 := by rw [ByteArray.size_append]; show s.size + 1 ≤ 11; omega
  have e1 := str_add (x := s) (y := ⟨#[32]⟩) (by show s.size + 1 ≤ 100000; omega)
  have e2 := str_add (x := s ++ ⟨#[32]⟩) (y := ⟨L.toArray⟩) (by omega)
  have e3 : binOp .add 9 (.string s) (.string ⟨#[32]⟩) = pure (.string (s ++ ⟨#[32]⟩)) := (binOp_string_add _ _ _).trans e1
  have e4 : binOp .add 9 (.string (s ++ ⟨#[32]⟩)) (.string ⟨L.toArray⟩) = pure (.string (s ++ ⟨#[32]⟩ ++ ⟨L.toArray⟩)) := (binOp_string_add _ _ _).trans e2
  have HR1 := Lib.hid (show Row .i64 (w.alloc (.cells #[.int .i64 f, .int .i64 t, .int .i64 l, .int .i64 se, .int .i64 fr, .int .i64 sh] 2)).drew (.slice (some ⟨w.heap.size, 0, none⟩) 6 6) [f, t, l, se, fr, sh] from row_alloc .i64 w [f, t, l, se, fr, sh] 2 6)
  have HC := Lib.hid hc
  have hz := awLtO hc
  obtain ⟨⟨c0, c1, c2, c3⟩, c4, c5, c6⟩ := hc
  go_enter Tryd.func55, Tryd.ntmps55
  go_wp2_with fail
  refine wp_region_held (S := fun w' => w'.cell? ⟨b, o, none⟩ = some (.string s) ∧ w'.cell? ⟨b, o + 1, none⟩ = some (.int .i64 f) ∧ w'.cell? ⟨b, o + 2, none⟩ = some (.int .i64 t) ∧ w'.cell? ⟨b, o + 3, none⟩ = some (.int .i64 l) ∧ w'.cell? ⟨b, o + 4, none⟩ = some (.int .i64 se) ∧ w'.cell? ⟨b, o + 5, none⟩ = some (.int .i64 fr) ∧ w'.cell? ⟨b, o + 6, none⟩ = some (.int .i64 sh) ∧ Below w.heap.size w w') (by kernel_rfl) ?_
  try (change wpAnyH _ _ _ _ _ _ _ _ (World.drew _))
  have hS0 := (show w.drew.cell? ⟨b, o, none⟩ = some (.string s) ∧ w.drew.cell? ⟨b, o + 1, none⟩ = some (.int .i64 f) ∧ w.drew.cell? ⟨b, o + 2, none⟩ = some (.int .i64 t) ∧ w.drew.cell? ⟨b, o + 3, none⟩ = some (.int .i64 l) ∧ w.drew.cell? ⟨b, o + 4, none⟩ = some (.int .i64 se) ∧ w.drew.cell? ⟨b, o + 5, none⟩ = some (.int .i64 fr) ∧ w.drew.cell? ⟨b, o + 6, none⟩ = some (.int .i64 sh) ∧ Below w.heap.size w w.drew from ⟨c0, c1, c2, c3, c4, c5, c6, Below.drew (Below.refl _ _)⟩)
  refine gTake 0 (v := ?_) rfl (by kernel_rfl) (by kernel_rfl) (by kernel_rfl) (fun _ _ _ h => h) (by kernel_rfl) ?_ hS0 ?_
  rotate_left
  · (intro W hW; clear hW; go_simp; try with_reducible rfl)
  refine gTake 1 (v := ?_) rfl (by kernel_rfl) (by kernel_rfl) (by kernel_rfl) (fun _ _ _ h => h) (by kernel_rfl) ?_ hS0 ?_
  rotate_left
  · (intro W hW; clear hW; go_simp; try with_reducible rfl)
  refine gTake 2 (v := ?_) rfl (by kernel_rfl) (by kernel_rfl) (by kernel_rfl) (fun _ _ _ h => h) (by kernel_rfl) ?_ hS0 ?_
  rotate_left
  · (intro W hW; clear hW; go_simp; try with_reducible rfl)
  refine gTake 3 (v := ?_) rfl (by kernel_rfl) (by kernel_rfl) (by kernel_rfl) (fun _ _ _ h => h) (by kernel_rfl) ?_ hS0 ?_
  rotate_left
  · (intro W hW; have q0 := hW.1; have q1 := hW.2.1; have q2 := hW.2.2.1; have q3 := hW.2.2.2.1; have q4 := hW.2.2.2.2.1; have q5 := hW.2.2.2.2.2.1; have q6 := hW.2.2.2.2.2.2.1; clear hW; go_simp; try with_reducible rfl)
  refine gTake 4 (v := ?_) rfl (by kernel_rfl) (by kernel_rfl) (by kernel_rfl) (fun _ _ _ h => h) (by kernel_rfl) ?_ hS0 ?_
  rotate_left
  · (intro W hW; clear hW; go_simp; try with_reducible rfl)
  refine gTake 5 (v := ?_) rfl (by kernel_rfl) (by kernel_rfl) (by kernel_rfl) (fun _ _ _ h => h) (by kernel_rfl) ?_ hS0 ?_
  rotate_left
  · (intro W hW; clear hW; go_simp; try with_reducible rfl)
  refine gTake 6 (v := ?_) rfl (by kernel_rfl) (by kernel_rfl) (by kernel_rfl) (fun _ _ _ h => h) (by kernel_rfl) ?_ hS0 ?_
  rotate_left
  · (intro W hW; clear hW; go_simp; try with_reducible rfl)
  refine gTake 7 (v := ?_) rfl (by kernel_rfl) (by kernel_rfl) (by kernel_rfl) (fun _ _ _ h => h) (by kernel_rfl) ?_ hS0 ?_
  rotate_left
  · (intro W hW; clear hW; go_simp; try with_reducible rfl)
  refine gTake 8 (v := ?_) rfl (by kernel_rfl) (by kernel_rfl) (by kernel_rfl) (fun _ _ _ h => h) (by kernel_rfl) ?_ hS0 ?_
  rotate_left
  · (intro W hW; have q0 := hW.1; have q1 := hW.2.1; have q2 := hW.2.2.1; have q3 := hW.2.2.2.1; have q4 := hW.2.2.2.2.1; have q5 := hW.2.2.2.2.2.1; have q6 := hW.2.2.2.2.2.2.1; clear hW; go_simp; try with_reducible rfl)
  refine gTake 9 (v := ?_) rfl (by kernel_rfl) (by kernel_rfl) (by kernel_rfl) (fun _ _ _ h => h) (by kernel_rfl) ?_ hS0 ?_
  rotate_left
  · (intro W hW; clear hW; go_simp; try with_reducible rfl)
  refine gTake 10 (v := ?_) rfl (by kernel_rfl) (by kernel_rfl) (by kernel_rfl) (fun _ _ _ h => h) (by kernel_rfl) ?_ hS0 ?_
  rotate_left
  · (intro W hW; clear hW; go_simp; try with_reducible rfl)
  refine gTake 11 (v := ?_) rfl (by kernel_rfl) (by kernel_rfl) (by kernel_rfl) (fun _ _ _ h => h) (by kernel_rfl) ?_ hS0 ?_
  rotate_left
  · (intro W hW; clear hW; go_simp; try with_reducible rfl)
  refine gTake 12 (v := ?_) rfl (by kernel_rfl) (by kernel_rfl) (by kernel_rfl) (fun _ _ _ h => h) (by kernel_rfl) ?_ hS0 ?_
  rotate_left
  · (intro W hW; have q0 := hW.1; have q1 := hW.2.1; have q2 := hW.2.2.1; have q3 := hW.2.2.2.1; have q4 := hW.2.2.2.2.1; have q5 := hW.2.2.2.2.2.1; have q6 := hW.2.2.2.2.2.2.1; clear hW; go_simp; try with_reducible rfl)
  refine gTake 13 (v := ?_) rfl (by kernel_rfl) (by kernel_rfl) (by kernel_rfl) (fun _ _ _ h => h) (by kernel_rfl) ?_ hS0 ?_
  rotate_left
  · (intro W hW; clear hW; go_simp; try with_reducible rfl)
  refine gTake 14 (v := ?_) rfl (by kernel_rfl) (by kernel_rfl) (by kernel_rfl) (fun _ _ _ h => h) (by kernel_rfl) ?_ hS0 ?_
  rotate_left
  · (intro W hW; clear hW; go_simp; try with_reducible rfl)
  refine gTake 15 (v := ?_) rfl (by kernel_rfl) (by kernel_rfl) (by kernel_rfl) (fun _ _ _ h => h) (by kernel_rfl) ?_ hS0 ?_
  rotate_left
  · (intro W hW; clear hW; go_simp; try with_reducible rfl)
  refine gTake 16 (v := ?_) rfl (by kernel_rfl) (by kernel_rfl) (by kernel_rfl) (fun _ _ _ h => h) (by kernel_rfl) ?_ hS0 ?_
  rotate_left
  · (intro W hW; have q0 := hW.1; have q1 := hW.2.1; have q2 := hW.2.2.1; have q3 := hW.2.2.2.1; have q4 := hW.2.2.2.2.1; have q5 := hW.2.2.2.2.2.1; have q6 := hW.2.2.2.2.2.2.1; clear hW; go_simp; try with_reducible rfl)
  refine gTake 17 (v := ?_) rfl (by kernel_rfl) (by kernel_rfl) (by kernel_rfl) (fun _ _ _ h => h) (by kernel_rfl) ?_ hS0 ?_
  rotate_left
  · (intro W hW; clear hW; go_simp; try with_reducible rfl)
  refine gTake 18 (v := ?_) rfl (by kernel_rfl) (by kernel_rfl) (by kernel_rfl) (fun _ _ _ h => h) (by kernel_rfl) ?_ hS0 ?_
  rotate_left
  · (intro W hW; clear hW; go_simp; try with_reducible rfl)
  refine gTake 19 (v := ?_) rfl (by kernel_rfl) (by kernel_rfl) (by kernel_rfl) (fun _ _ _ h => h) (by kernel_rfl) ?_ hS0 ?_
  rotate_left
  · (intro W hW; clear hW; go_simp; try with_reducible rfl)
  refine gTake 20 (v := ?_) rfl (by kernel_rfl) (by kernel_rfl) (by kernel_rfl) (fun _ _ _ h => h) (by kernel_rfl) ?_ hS0 ?_
  rotate_left
  · (intro W hW; have q0 := hW.1; have q1 := hW.2.1; have q2 := hW.2.2.1; have q3 := hW.2.2.2.1; have q4 := hW.2.2.2.2.1; have q5 := hW.2.2.2.2.2.1; have q6 := hW.2.2.2.2.2.2.1; clear hW; go_simp; try with_reducible rfl)
  refine gTake 21 (v := ?_) rfl (by kernel_rfl) (by kernel_rfl) (by kernel_rfl) (fun _ _ _ h => h) (by kernel_rfl) ?_ hS0 ?_
  rotate_left
  · (intro W hW; clear hW; go_simp; try with_reducible rfl)
  refine gTake 22 (v := ?_) rfl (by kernel_rfl) (by kernel_rfl) (by kernel_rfl) (fun _ _ _ h => h) (by kernel_rfl) ?_ hS0 ?_
  rotate_left
  · (intro W hW; clear hW; go_simp; try with_reducible rfl)
  refine gTake 23 (v := ?_) rfl (by kernel_rfl) (by kernel_rfl) (by kernel_rfl) (fun _ _ _ h => h) (by kernel_rfl) ?_ hS0 ?_
  rotate_left
  · (intro W hW; clear hW; go_simp; try with_reducible rfl)
  refine gTake 24 (v := ?_) rfl (by kernel_rfl) (by kernel_rfl) (by kernel_rfl) (fun _ _ _ h => h) (by kernel_rfl) ?_ hS0 ?_
  rotate_left
  · (intro W hW; have q0 := hW.1; have q1 := hW.2.1; have q2 := hW.2.2.1; have q3 := hW.2.2.2.1; have q4 := hW.2.2.2.2.1; have q5 := hW.2.2.2.2.2.1; have q6 := hW.2.2.2.2.2.2.1; clear hW; go_simp; try with_reducible rfl)
  refine gTake 25 (v := ?_) rfl (by kernel_rfl) (by kernel_rfl) (by kernel_rfl) (fun _ _ _ h => h) (by kernel_rfl) ?_ hS0 ?_
  rotate_left
  · (intro W hW; clear hW; go_simp; try with_reducible rfl)
  refine gTake 26 (v := ?_) rfl (by kernel_rfl) (by kernel_rfl) (by kernel_rfl) (fun _ _ _ h => h) (by kernel_rfl) ?_ hS0 ?_
  rotate_left
  · (intro W hW; clear hW; go_simp; try with_reducible rfl)
  refine gTake 27 (v := ?_) rfl (by kernel_rfl) (by kernel_rfl) (by kernel_rfl) (fun _ _ _ h => h) (by kernel_rfl) ?_ hS0 ?_
  rotate_left
  · (intro W hW; clear hW; go_simp; try with_reducible rfl)
  refine gTake 28 (v := ?_) rfl (by kernel_rfl) (by kernel_rfl) (by kernel_rfl) (fun _ _ _ h => h) (by kernel_rfl) ?_ hS0 ?_
  rotate_left
  · (intro W hW; have q0 := hW.1; have q1 := hW.2.1; have q2 := hW.2.2.1; have q3 := hW.2.2.2.1; have q4 := hW.2.2.2.2.1; have q5 := hW.2.2.2.2.2.1; have q6 := hW.2.2.2.2.2.2.1; clear hW; go_simp; try with_reducible rfl)
  refine gOne 29 rfl (by kernel_rfl) (by kernel_rfl) (fun K hK => ?_)
  go_simp
  skip
  have hS1 := (show (w.alloc (.cells #[.int .i64 f, .int .i64 t, .int .i64 l, .int .i64 se, .int .i64 fr, .int .i64 sh] 2)).drew.cell? ⟨b, o, none⟩ = some (.string s) ∧ (w.alloc (.cells #[.int .i64 f, .int .i64 t, .int .i64 l, .int .i64 se, .int .i64 fr, .int .i64 sh] 2)).drew.cell? ⟨b, o + 1, none⟩ = some (.int .i64 f) ∧ (w.alloc (.cells #[.int .i64 f, .int .i64 t, .int .i64 l, .int .i64 se, .int .i64 fr, .int .i64 sh] 2)).drew.cell? ⟨b, o + 2, none⟩ = some (.int .i64 t) ∧ (w.alloc (.cells #[.int .i64 f, .int .i64 t, .int .i64 l, .int .i64 se, .int .i64 fr, .int .i64 sh] 2)).drew.cell? ⟨b, o + 3, none⟩ = some (.int .i64 l) ∧ (w.alloc (.cells #[.int .i64 f, .int .i64 t, .int .i64 l, .int .i64 se, .int .i64 fr, .int .i64 sh] 2)).drew.cell? ⟨b, o + 4, none⟩ = some (.int .i64 se) ∧ (w.alloc (.cells #[.int .i64 f, .int .i64 t, .int .i64 l, .int .i64 se, .int .i64 fr, .int .i64 sh] 2)).drew.cell? ⟨b, o + 5, none⟩ = some (.int .i64 fr) ∧ (w.alloc (.cells #[.int .i64 f, .int .i64 t, .int .i64 l, .int .i64 se, .int .i64 fr, .int .i64 sh] 2)).drew.cell? ⟨b, o + 6, none⟩ = some (.int .i64 sh) ∧ Below w.heap.size w (w.alloc (.cells #[.int .i64 f, .int .i64 t, .int .i64 l, .int .i64 se, .int .i64 fr, .int .i64 sh] 2)).drew from by have qq := HC.out.lower (Below.drew (below_box w (.cells #[.int .i64 f, .int .i64 t, .int .i64 l, .int .i64 se, .int .i64 fr, .int .i64 sh] 2))) hz; exact ⟨qq.1.1, qq.1.2.1, qq.1.2.2.1, qq.1.2.2.2, qq.2.1, qq.2.2.1, qq.2.2.2, (Below.drew (below_box w (.cells #[.int .i64 f, .int .i64 t, .int .i64 l, .int .i64 se, .int .i64 fr, .int .i64 sh] 2)))⟩)
  refine hK _ _ hS1 ?_
  clear hK K
  refine gOne 30 rfl (by kernel_rfl) (by kernel_rfl) (fun K hK => ?_)
  go_simp
  go_at_call 79
  (with_reducible refine (HL.out _ _ HR1.out).mono ?_)
  rintro e w2 ⟨he, hd2⟩
  obtain rfl : e = .returned (.string ⟨L.toArray⟩) := he
  try go_simp
  have hS2 := (show w2.cell? ⟨b, o, none⟩ = some (.string s) ∧ w2.cell? ⟨b, o + 1, none⟩ = some (.int .i64 f) ∧ w2.cell? ⟨b, o + 2, none⟩ = some (.int .i64 t) ∧ w2.cell? ⟨b, o + 3, none⟩ = some (.int .i64 l) ∧ w2.cell? ⟨b, o + 4, none⟩ = some (.int .i64 se) ∧ w2.cell? ⟨b, o + 5, none⟩ = some (.int .i64 fr) ∧ w2.cell? ⟨b, o + 6, none⟩ = some (.int .i64 sh) ∧ Below w.heap.size w w2 from by have qq := AwAtO.lower (show AwAtO _ b o s f t l se fr sh from ⟨⟨hS1.1, hS1.2.1, hS1.2.2.1, hS1.2.2.2.1⟩, hS1.2.2.2.2.1, hS1.2.2.2.2.2.1, hS1.2.2.2.2.2.2.1⟩) hd2 (Nat.lt_of_lt_of_le hz hS1.2.2.2.2.2.2.2.size); exact ⟨qq.1.1, qq.1.2.1, qq.1.2.2.1, qq.1.2.2.2, qq.2.1, qq.2.2.1, qq.2.2.2, hS1.2.2.2.2.2.2.2.trans (hd2.mono hS1.2.2.2.2.2.2.2.size)⟩)
  refine hK _ _ hS2 ?_
  clear hK K
  refine gTake 31 (v := ?_) rfl (by kernel_rfl) (by kernel_rfl) (by kernel_rfl) (fun _ _ _ h => h) (by kernel_rfl) ?_ hS2 ?_
  rotate_left
  · (intro W hW; clear hW; go_simp; try with_reducible rfl)
  refine gTake 32 (v := ?_) rfl (by kernel_rfl) (by kernel_rfl) (by kernel_rfl) (fun _ _ _ h => h) (by kernel_rfl) ?_ hS2 ?_
  rotate_left
  · (intro W hW; clear hW; go_simp; try with_reducible rfl)
  refine wpAnyH_done (by kernel_rfl) ?_ _
  go_simp
  go_wp2
  go_ret
  exact ⟨rfl, hS2.2.2.2.2.2.2.2⟩
/-- The text of an airway, the texts of some behind slashes, the text of a mine. -/
def awTB (a : Aw) : ByteArray := awT a.s a.f a.t a.l a.se a.fr a.sh
def tailM (xs : List Aw) : List UInt8 := xs.flatMap fun a => 47 :: (awTB a).data.toList
def mineTL (J : Int) (xs : List Aw) : List UInt8 := Lib.itoa J ++ tailM xs
theorem tailM_snoc {xs : List Aw} {k : Nat} (h : k < xs.length) : tailM (xs.take (k + 1)) = tailM (xs.take k) ++ 47 :: (awTB xs[k]).data.toList := by
  unfold tailM
  rw [List.take_succ_eq_append_getElem h, List.flatMap_append]
  simp
theorem awTB_len (a : Aw) : (awTB a).data.toList.length ≤ 200 := by
  unfold awTB awT
  split
  · rename_i hok
    have h1 := isNm_size (awOk_bd hok).1.1
    obtain ⟨hr, -⟩ := fitsL_iff.1 (aw_in hok)
    have h2 := commas_len [a.f, a.t, a.l, a.se, a.fr, a.sh] (fun y hy => by have := hr y hy; omega)
    have e : a.s.data.toList.length = a.s.size := by simp
    simp at h2 ⊢
    omega
  · simp
theorem tailM_len : ∀ xs : List Aw, (tailM xs).length ≤ 201 * xs.length
  | [] => by simp [tailM]
  | a :: r => by
    have ih := tailM_len r
    have h := awTB_len a
    unfold tailM at ih ⊢
    rw [List.flatMap_cons, List.length_append, List.length_cons, List.length_cons]
    omega
theorem tailM_take (xs : List Aw) (hl : xs.length ≤ 24) (k : Nat) : (tailM (xs.take k)).length ≤ 4824 := by
  have := tailM_len (xs.take k)
  have h2 : (xs.take k).length ≤ 24 := by rw [List.length_take]; omega
  omega
theorem join_mine (J : Int) (xs : List Aw) : Lib.join ((decB J :: xs.map awTB).map (·.data.toList)) [47] = mineTL J xs := by
  rw [List.map_cons, Lib.join_cons]
  unfold mineTL tailM Lib.joinTail
  congr 1
  rw [List.map_map, List.map_map, List.flatMap_def]
  congr 1
/-- What MineText returns. -/
def mnT (J : Int) (xs : List Aw) : ByteArray := if mineOk J xs then ⟨(mineTL J xs).toArray⟩ else ⟨#[]⟩
theorem mine_aw {J : Int} {xs : List Aw} {k : Nat} (h : mineOk J xs = true) (hk : k < xs.length) : xs[k].ok = true := by
  have := upTo_all _ (mineOk_iff.1 h).2.1 k hk
  unfold stepOk at this
  rw [getD_of_lt hk] at this
  simp only [Bool.and_eq_true] at this
  exact this.1.1.1
theorem itoa_small {J : Int} (h : 1 ≤ J ∧ J ≤ 16) : (Lib.itoa J).length ≤ 22 := by have := Lib.itoa_length_le J (by omega) (by omega); omega
theorem addM {a b c : List UInt8} (h : a.length + b.length + c.length ≤ 90000) : Op.stringOp .add (⟨a.toArray⟩ : ByteArray) ⟨b.toArray⟩ = pure (.string ⟨(a ++ b).toArray⟩) := by
  rw [str_add (by simp only [ByteArray.size, List.size_toArray]; omega), bytes_app]
set_option maxHeartbeats 2000000 in
theorem l04Text_any (b : Nat) (J : Int) (A : Option Addr) (cap : Nat) (xs : List Aw) (w : World) (hJ : w.cell? ⟨b, 0, none⟩ = some (.int .i64 J)) (hA : w.cell? ⟨b, 1, none⟩ = some (.slice A xs.length cap)) (hr : AwR w A xs) (hok : mineOk J xs = true) :
    Calls Tryd.prog 29 #[.pointer (some ⟨b, 0, none⟩)] w fun e w' => e = .returned (.string ⟨(mineTL J xs).toArray⟩) ∧ Below w.heap.size w w' := by
  obtain ⟨⟨j1, j2⟩, -, hl24⟩ := mineOk_iff.1 hok
  have HOK := Lib.hid hok
  have HR := Lib.hid hr
  have HA := Lib.hid hA
  have hbl : b < w.heap.size := World.block_lt_of_cell? _ _ hJ
  have HI := Lib.hid (itoa_small ⟨j1, j2⟩)
  have HT := Lib.hid (tailM_take xs hl24)
  clear hok hr hA
  go_enter Tryd.func29, Tryd.ntmps29
  go_wp2_with fail
  (with_reducible refine (l01Dec_any J _ (by omega) (by omega)).mono ?_)
  rintro e w1 ⟨rfl, hb1⟩
  have HB1 := Lib.hid hb1
  clear hb1 hJ
  go_wp2_with fail
  go_loopw [3, 4] (fun out i wr => ∃ k : Nat, k ≤ xs.length ∧ i = .int .i64 k ∧ out = .string ⟨(Lib.itoa J ++ tailM (xs.take k)).toArray⟩ ∧ Below w.heap.size w wr) (fun out i wr => xs.length - (intOf i).toNat)
  case atStart => exact ⟨0, by omega, rfl, by simp [tailM], HB1.out⟩
  case round =>
    obtain ⟨k, hk, rfl, rfl, hbel⟩ := hrel
    have hA1 : wr.cell? ⟨b, 1, none⟩ = some (.slice A xs.length cap) := (hbel.cell hbl).trans HA.out
    by_cases hlt : k < xs.length
    · obtain ⟨b', off, rfl, hrg⟩ := HR.out.below hbel k hlt
      have HC := Lib.hid (AwAtO.of hrg)
      have hwk := mine_aw HOK.out hlt
      have hTS := tailM_snoc hlt
      have HL := Lib.hid (awTB_len xs[k])
      have HTK := Lib.hid (HT.out k)
      obtain ⟨L, hL⟩ : ∃ L, Lib.itoa J ++ tailM (xs.take k) = L := ⟨_, rfl⟩
      have hLl : L.length ≤ 5000 := by rw [← hL, List.length_append]; have := HI.out; have := HTK.out; omega
      generalize xs[k] = x at *
      obtain ⟨s, f, t, l, se, fr, sh⟩ := x
      have hwk2 : awOk s f t l se fr sh = true := hwk
      have hTX : awTB ⟨s, f, t, l, se, fr, sh⟩ = s ++ ⟨#[32]⟩ ++ ⟨(commas [f, t, l, se, fr, sh]).toArray⟩ := by unfold awTB awT; exact if_pos hwk2
      have HTO := Lib.hid (l03TextO_any b' (off + k * 7) s f t l se fr sh wr hwk2 HC.out)
      rw [← hTX] at HTO
      generalize awTB ⟨s, f, t, l, se, fr, sh⟩ = X at *
      have HN := Lib.hid (show Lib.itoa J ++ tailM (xs.take (k + 1)) = L ++ 47 :: X.data.toList by rw [hTS, ← hL, List.append_assoc])
      have HBL := Lib.hid hbel
      have hX2 : X.size ≤ 200 := by have := HL.out; simpa using this
      have e1 := str_add (x := ⟨#[47]⟩) (y := X) (by show 1 + X.size ≤ 100000; omega)
      have e2 := str_add (x := ⟨L.toArray⟩) (y := ⟨#[47]⟩ ++ X) (by rw [ByteArray.size_append]; show L.toArray.size + (1 + X.size) ≤ 100000; simp; omega)
      have e3 : binOp .add 9 (.string ⟨#[47]⟩) (.string X) = pure (.string (⟨#[47]⟩ ++ X)) := (binOp_string_add _ _ _).trans e1
      have e4 : binOp .add 9 (.string ⟨L.toArray⟩) (.string (⟨#[47]⟩ ++ X)) = pure (.string (⟨L.toArray⟩ ++ (⟨#[47]⟩ ++ X))) := (binOp_string_add _ _ _).trans e2
      have HE := Lib.hid (show (⟨L.toArray⟩ : ByteArray) ++ (⟨#[47]⟩ ++ X) = ⟨(L ++ 47 :: X.data.toList).toArray⟩ by apply ByteArray.ext; simp)
      rw [hL]
      clear hL hTX hTS hwk hwk2 hrg hbel
      go_wp2_with fail
      (with_reducible refine (HTO.out).mono ?_)
      rintro e w2 ⟨rfl, hb2⟩
      have HB2 := Lib.hid (HBL.out.trans (hb2.mono HBL.out.size))
      clear hb2 hA1
      go_wp2
      go_roundw
      case rel => exact ⟨k + 1, by omega, by go_num, by rw [HN.out, HE.out], HB2.out⟩
      case measure => simp [intOf]; omega
    · obtain rfl : k = xs.length := by omega
      rw [List.take_length]
      have HBL := Lib.hid hbel
      clear hbel
      go_wp2
      go_ret
      exact ⟨rfl, HBL.out⟩
theorem sMineText_any (J : Int) (A : Option Addr) (cap : Nat) (xs : List Aw) (w : World) (hr : AwR w A xs) (hs : ∀ a ∈ xs, a.s.size ≤ maxLen) (hl : xs.length ≤ 1048576) :
    Calls Tryd.prog 7 #[.agg #[.int .i64 J, .slice A xs.length cap]] w fun e w' => e = .returned (.string (mnT J xs)) ∧ Below w.heap.size w w' := by
  have HR := Lib.hid (hr.below (below_box w (.cells #[.int .i64 J, .slice A xs.length cap] 29)))
  have HS := Lib.hid hs
  clear hr hs
  cases hok : mineOk J xs
  · have HE := Lib.hid (show mnT J xs = ⟨#[]⟩ by unfold mnT; rw [hok]; rfl)
    go_enter Tryd.func7, Tryd.ntmps7
    go_wp2_with (go_at_call 28; refine (l04Ok_any w.heap.size J A cap xs _ (by simp) (by simp) HR.out HS.out hl).mono ?_; rw [hok]; rintro e w' ⟨rfl, n, rfl⟩)
    go_ret
    exact ⟨by rw [HE.out]; rfl, below_drewN' (below_one _ _) n⟩
  · have HE := Lib.hid (show mnT J xs = ⟨(mineTL J xs).toArray⟩ by unfold mnT; rw [hok]; rfl)
    have HOK := Lib.hid hok
    go_enter Tryd.func7, Tryd.ntmps7
    go_wp2_with fail
    (with_reducible refine (l04Ok_any w.heap.size J A cap xs _ (by simp) (by simp) HR.out HS.out hl).mono ?_)
    rw [hok]
    rintro e w' ⟨rfl, n, rfl⟩
    go_wp2_with fail
    (with_reducible refine (l04Text_any w.heap.size J A cap xs _ (by simp) (by simp) (HR.out.drewN n) HOK.out).mono ?_)
    rintro e w2 ⟨rfl, hb⟩
    go_wp2
    go_ret
    exact ⟨by rw [HE.out]; rfl, (below_drewN' (below_one w (.cells #[.int .i64 J, .slice A xs.length cap] 29)) n).trans (hb.mono (by simp))⟩
theorem ownP {w : World} {B e s n : Nat} {v : Value} {xs : List Value} (h : w.ownsRow B e s v n xs) (hn : 0 < n) : ∃ g cap, v = .slice (some ⟨g, 0, none⟩) n cap := by
  rcases h.2 with ⟨_, h0⟩ | ⟨g, cap, _, hv, _⟩
  · omega
  · exact ⟨g, cap, hv⟩
theorem ownC {w : World} {B e s n g cap : Nat} {xs : List Value} (h : w.ownsRow B e s (.slice (some ⟨g, 0, none⟩) n cap) n xs) : n ≤ cap := by
  rcases h.2 with ⟨hh, h0⟩ | ⟨g', cap', cur, hh, _, _, hle, _⟩
  · cases hh
  · injection hh with _ _ h3; omega
theorem info_str2 : (Tryd.prog.info? 9).map (fun i => (i.zero, i.size, i.bytes)) = some (some (.string ⟨#[]⟩), 1, 16) := by kernel_rfl
set_option maxHeartbeats 4000000 in
set_option maxRecDepth 100000 in
theorem iMineText_any (J : Int) (A : Option Addr) (cap : Nat) (xs : List Aw) (w : World) (hr : AwR w A xs) (hs : ∀ a ∈ xs, a.s.size ≤ maxLen) (hl : xs.length ≤ 1048576) (hP : Pow w) :
    Calls Tryd.prog 9 #[.agg #[.int .i64 J, .slice A xs.length cap]] w fun e w' => e = .returned (.string (mnT J xs)) ∧ Below w.heap.size w w' := by
  have HRW := Lib.hid hr
  have HB0 := Lib.hid (below_box w (.cells #[.int .i64 J, .slice A xs.length cap] 29))
  have HR0 := Lib.hid (hr.below HB0.out)
  have HS := Lib.hid hs
  have HP := Lib.hid hP
  have HV := Lib.hid (iValidMine_any J A cap xs (w.alloc (.cells #[.int .i64 J, .slice A xs.length cap] 29)) HR0.out hs hl)
  clear hr hs hP
  cases hok : mineOk J xs
  · have HE := Lib.hid (show mnT J xs = ⟨#[]⟩ by unfold mnT; rw [hok]; rfl)
    rw [hok] at HV
    go_enter Tryd.func9, Tryd.ntmps9
    go_wp2_with fail
    (with_reducible refine (HV.out).mono ?_)
    rintro e w1 ⟨rfl, hb⟩
    go_wp2
    go_ret
    exact ⟨by rw [HE.out]; rfl, HB0.out.trans (hb.mono (by simp))⟩
  · have HE := Lib.hid (show mnT J xs = ⟨(mineTL J xs).toArray⟩ by unfold mnT; rw [hok]; rfl)
    have HOK := Lib.hid hok
    rw [hok] at HV
    obtain ⟨⟨j1, j2⟩, -, hl24⟩ := mineOk_iff.1 HOK.out
    have HI := Lib.hid (itoa_small ⟨j1, j2⟩)
    obtain ⟨i0, hi, hz0, hz1, hz2⟩ := info_parts info_str2
    clear hok
    go_enter Tryd.func9, Tryd.ntmps9
    go_wp2_with fail
    (with_reducible refine (HV.out).mono ?_)
    rintro e w1 ⟨rfl, hb1⟩
    obtain ⟨hc1, hf1⟩ := bcell hb1
    have HB1 := Lib.hid (HB0.out.trans (hb1.mono (by simp)))
    have hz1' : w.heap.size < w1.heap.size := Nat.lt_of_lt_of_le (by simp) hb1.size
    have HR1 := Lib.hid (HR0.out.below hb1)
    clear hb1 HV
    go_wp2_with fail
    (with_reducible refine (iDecimal_any J _ (by omega) (by omega) (HP.out.below HB1.out)).mono ?_)
    rintro e w2 ⟨rfl, hb2⟩
    have hm : w2.cell? ⟨w.heap.size, 1, none⟩ = some (.slice A xs.length cap) := by rw [hb2.cell (p := ⟨w.heap.size, 1, none⟩) hz1', hc1 _ _ (by simp)]; simp
    have HB2 := Lib.hid (HB1.out.trans (hb2.mono HB1.out.size))
    have HR2 := Lib.hid (HR1.out.below hb2)
    have hz2' : w.heap.size < w2.heap.size := Nat.lt_of_lt_of_le hz1' hb2.size
    clear hb2 hc1 hf1 HB1 HR1
    go_wp2_with fail
    go_loopw [3, 16] (fun p i wr => ∃ k : Nat, k ≤ xs.length ∧ i = .int .i64 k ∧ wr.ownsRow w.heap.size 9 1 p (k + 1) (strsV (decB J :: (xs.map awTB).take k)) ∧ Below w.heap.size w wr) (fun p i wr => xs.length - (intOf i).toNat)
    case atStart => exact ⟨0, by omega, rfl, (by have h := World.ownsRow_lit (base := w.heap.size) (e := 9) (size := 1) w2 #[.string (decB J)] 1 HB2.out.size (by simp [maxLen]) rfl; simpa [strsV, decB] using h), HB2.out.alloc HB2.out.size _⟩
    case round =>
      obtain ⟨k, hk, rfl, hown, hbel⟩ := hrel
      by_cases hlt : k < xs.length
      · obtain ⟨b', off, rfl, hrg⟩ := HRW.out.below hbel k hlt
        obtain ⟨⟨c0, c1, c2, c3⟩, c4, c5, c6⟩ := lay_row hrg
        have hss := HS.out xs[k] (List.getElem_mem hlt)
        have HSN := Lib.hid (show strsV (decB J :: (xs.map awTB).take (k + 1)) = strsV (decB J :: (xs.map awTB).take k) ++ [.string (awTB xs[k])] by rw [List.take_succ_eq_append_getElem (by simpa using hlt), List.getElem_map, ← List.cons_append]; unfold strsV; rw [List.map_append]; rfl)
        generalize xs[k] = x at *
        obtain ⟨s, f, t, l, se, fr, sh⟩ := x
        dsimp only at c0 c1 c2 c3 c4 c5 c6 hss
        have HTX := Lib.hid (fun W (h : Below w.heap.size w W) => iAirwayText_any s f t l se fr sh W hss (HP.out.below h))
        rw [show awT s f t l se fr sh = awTB ⟨s, f, t, l, se, fr, sh⟩ from rfl] at HTX
        generalize awTB ⟨s, f, t, l, se, fr, sh⟩ = X at *
        have HO := Lib.hid hown
        have HBL := Lib.hid hbel
        clear hown hbel hrg
        go_wp2_with fail
        (with_reducible refine (HTX.out _ (HBL.out.alloc HBL.out.size _)).mono ?_)
        rintro e w3 ⟨rfl, hb3⟩
        have HO3 := Lib.hid (own_below (HO.out.alloc _) hb3)
        have HB3 := Lib.hid ((HBL.out.alloc HBL.out.size _).trans (hb3.mono (HBL.out.alloc HBL.out.size _).size))
        have hs3 : w.heap.size ≤ w3.heap.size := HB3.out.size
        clear hb3 c0 c1 c2 c3 c4 c5 c6
        go_wp2_with (first
          | (at_builtin; refine wpList_append_own_at _ rfl _ _ 59 rfl w.heap.size 9 i0 (.string ⟨#[]⟩) 1 16 Tryd.underlying59 hi hz0 hz1 hz2 rfl (by decide) _ _ _ rfl (HO3.out.alloc _) ⟨w3.heap.size, 0, none⟩ 1 1 [.string X] rfl rfl ?c1z ?c2z ?c3z ?c4z ?c5z ?_))
        case c1z => intro j u hj; match j, hj with | 0, hj => (simp at hj; subst hj; simp [Addr.add]) | j + 1, hj => (simp at hj)
        case c2z => simp [Value.oneCell']
        case c3z => unfold maxLen; omega
        case c4z => omega
        case c5z => (simp; omega)
        intro v4 w4 ho4 hg4 _ hl4
        have HB4 := Lib.hid ((HB3.out.alloc HB3.out.size _).grown hg4 (by have := HB3.out.size; simp; omega) (fun k hk => (HO3.out.lt k hk).1))
        have HO4 := Lib.hid ho4
        clear ho4 hg4 hl4
        go_wp2
        go_roundw
        case rel => exact ⟨k + 1, by omega, by go_num, by rw [HSN.out]; exact HO4.out, HB4.out⟩
        case measure => simp [intOf]; omega
      · obtain rfl : k = xs.length := by omega
        rw [List.take_of_length_le (by simp)] at hown
        obtain ⟨g, cp, rfl⟩ := ownP hown (by omega)
        have hbk : g < wr.heap.size := (hown.lt g rfl).2
        have hTL : (mineTL J xs).length ≤ 140737488355328 := by
          unfold mineTL
          rw [List.length_append]
          have := HI.out
          have := tailM_len xs
          omega
        have hJ := Tryd.strings_Join g 0 cp (decB J :: xs.map awTB) ⟨#[47]⟩ wr (by
            intro j x hx
            have hj : j < (decB J :: xs.map awTB).length := (List.getElem?_eq_some_iff.1 hx).1
            rw [List.length_cons, List.length_map] at hj
            rw [Nat.zero_add, hown.cellAt j (by omega)]
            unfold strsV
            rw [List.getElem?_map, hx]
            rfl) hbk (by rw [List.length_cons, List.length_map]; omega) (by rw [List.length_cons, List.length_map]; exact ownC hown) (by
            rw [show (ByteArray.mk #[47]).data.toList = [47] from rfl, join_mine]; exact hTL)
        rw [show (ByteArray.mk #[47]).data.toList = [47] from rfl, join_mine, List.length_cons, List.length_map] at hJ
        have HBL := Lib.hid hbel
        have HJ := Lib.hid hJ
        clear hown hbel hJ
        go_wp2_with fail
        refine (HJ.out).mono ?_
        rintro e w3 ⟨rfl, hb3⟩
        go_wp2
        go_ret
        exact ⟨by rw [HE.out]; rfl, HBL.out.trans (hb3.mono HBL.out.size)⟩
end Go.Proofs.YtofpecgmnodflaaDoor
