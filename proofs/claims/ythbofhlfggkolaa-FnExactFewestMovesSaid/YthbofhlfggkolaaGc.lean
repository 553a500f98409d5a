/-
  Contracts of the laws' helpers on mines: sizes, copies, comparisons. Conditions: those that each theorem states. Conditions: those that each theorem states.
-/
import Derived.Test.YthbofhlfggkolaaGb
import Derived.Test.YthbofhlfggkolaaDc
import Derived.Deep.OwnRows
import Derived.OwnWalk
import Derived.WalkSmall
namespace Go.Proofs.Ythbofhlfggkolaa
open Go.RowKit
set_option linter.unusedVariables false

/-- What is left of a size behind texts. -/
def szGo (left : Int) : List Aw → Int
  | [] => left
  | a :: r => if left - a.s.size < 0 then -1 else szGo (left - a.s.size) r
def szL (left : Int) (xs : List Aw) : Int := if left - xs.length < 0 then -1 else szGo (left - xs.length) xs
theorem szGo_le : ∀ (xs : List Aw) (left : Int), 0 ≤ left → -1 ≤ szGo left xs ∧ szGo left xs ≤ left
  | [], left, h => ⟨by simp only [szGo]; omega, Int.le_refl _⟩
  | a :: r, left, h => by
    simp only [szGo]
    split
    · omega
    · have := szGo_le r (left - a.s.size) (by omega); omega
theorem szL_bd {left : Int} {xs : List Aw} (h0 : 0 ≤ left) (h : 0 ≤ szL left xs) : (xs.length : Int) ≤ left ∧ ∀ a ∈ xs, (a.s.size : Int) ≤ left := by
  unfold szL at h
  split at h
  · omega
  · rename_i hl
    refine ⟨by omega, ?_⟩
    have key : ∀ (xs : List Aw) (left : Int), 0 ≤ left → 0 ≤ szGo left xs → ∀ a ∈ xs, (a.s.size : Int) ≤ left := by
      intro xs
      induction xs with
      | nil => intro _ _ _ a ha; cases ha
      | cons x r ih =>
        intro left h0 h a ha
        simp only [szGo] at h
        split at h
        · omega
        · rcases List.mem_cons.1 ha with rfl | ha
          · omega
          · have := ih _ (by omega) h a ha; omega
    intro a ha
    have := key xs _ (by omega) h a ha
    omega
theorem szL_le {left : Int} {xs : List Aw} (h0 : 0 ≤ left) : -1 ≤ szL left xs ∧ szL left xs ≤ left := by
  unfold szL
  split
  · omega
  · have := szGo_le xs (left - xs.length) (by omega); omega
theorem szAirway_any (s : ByteArray) (f t l se fr sh left : Int) (w : World) (hm : s.size ≤ maxLen) (h0 : 0 ≤ left ∧ left ≤ 1048576) :
    Calls Try.prog 73 #[.agg #[.string s, .int .i64 f, .int .i64 t, .int .i64 l, .int .i64 se, .int .i64 fr, .int .i64 sh], .int .i64 left] w fun e w' => e = .returned (.int .i64 (if left - s.size < 0 then -1 else left - s.size)) ∧ Below w.heap.size w w' := by
  unfold maxLen at hm
  by_cases h : left - s.size < 0
  · rw [if_pos h]
    go_enter Try.func73, Try.ntmps73
    go_wp2
    go_ret
    exact ⟨rfl, below_box _ _⟩
  · rw [if_neg h]
    go_enter Try.func73, Try.ntmps73
    go_wp2
    go_ret
    exact ⟨rfl, below_box _ _⟩
theorem lay_row {w : World} {b o : Nat} {a : Aw} (h : w.rangeAt b o a.cells) :
    (w.cell? ⟨b, o, none⟩ = some (.string a.s) ∧ w.cell? ⟨b, o + 1, none⟩ = some (.int .i64 a.f) ∧ w.cell? ⟨b, o + 2, none⟩ = some (.int .i64 a.t) ∧ w.cell? ⟨b, o + 3, none⟩ = some (.int .i64 a.l)) ∧
    w.cell? ⟨b, o + 4, none⟩ = some (.int .i64 a.se) ∧ w.cell? ⟨b, o + 5, none⟩ = some (.int .i64 a.fr) ∧ w.cell? ⟨b, o + 6, none⟩ = some (.int .i64 a.sh) :=
  ⟨⟨h 0 _ rfl, h 1 _ rfl, h 2 _ rfl, h 3 _ rfl⟩, h 4 _ rfl, h 5 _ rfl, h 6 _ rfl⟩
set_option maxHeartbeats 1000000 in
set_option maxRecDepth 100000 in
theorem szAirwayS_any (A : Option Addr) (cap : Nat) (xs : List Aw) (left : Int) (w : World) (hr : AwR w A xs) (hs : ∀ a ∈ xs, a.s.size ≤ maxLen) (hl : xs.length ≤ maxLen) (h0 : 0 ≤ left ∧ left ≤ 1048576) :
    Calls Try.prog 38 #[.slice A xs.length cap, .int .i64 left] w fun e w' => e = .returned (.int .i64 (szL left xs)) ∧ Below w.heap.size w w' := by
  unfold maxLen at hl
  by_cases h : left - xs.length < 0
  · have HE := Lib.hid (show szL left xs = -1 by unfold szL; rw [if_pos h])
    clear hr hs
    go_enter Try.func38, Try.ntmps38
    go_wp2
    go_ret
    exact ⟨ret_int HE.out.symm, Below.refl _ _⟩
  · have HE := Lib.hid (show szL left xs = szGo (left - xs.length) xs by unfold szL; rw [if_neg h])
    have HR := Lib.hid hr
    have HS := Lib.hid hs
    clear hr hs
    go_enter Try.func38, Try.ntmps38
    go_wp2
    go_loopw [1, 5] (fun t i wr => ∃ (k : Nat) (x : Int), k ≤ xs.length ∧ i = .int .i64 k ∧ t = .int .i64 x ∧ 0 ≤ x ∧ x ≤ 1048576 ∧ Hid (szGo x (xs.drop k) = szL left xs) ∧ Below w.heap.size w wr) (fun t i wr => xs.length - (intOf i).toNat)
    case atStart => exact ⟨0, _, by omega, rfl, rfl, by omega, by omega, Lib.hid (by rw [HE.out, List.drop_zero]), Below.refl _ _⟩
    case round =>
      obtain ⟨k, x, hk, rfl, rfl, hx0, hx1, HX, hbel⟩ := hrel
      by_cases hlt : k < xs.length
      · obtain ⟨b, off, rfl, hrg⟩ := HR.out k hlt
        have hrg' := rangeAt_below hrg hbel (rangeAt_lt hrg (by simp [Aw.cells]))
        obtain ⟨⟨c0, c1, c2, c3⟩, c4, c5, c6⟩ := lay_row hrg'
        have hsz := HS.out xs[k] (List.getElem_mem hlt)
        have HZ := Lib.hid (show szGo x (xs.drop k) = if x - xs[k].s.size < 0 then -1 else szGo (x - xs[k].s.size) (xs.drop (k + 1)) by rw [List.drop_eq_getElem_cons hlt]; rfl)
        clear hrg hrg'
        generalize xs[k] = y at *
        obtain ⟨s, f, t, l, se, fr, sh⟩ := y
        dsimp only at hsz HZ c0 c1 c2 c3 c4 c5 c6
        obtain ⟨wo, rfl⟩ : ∃ wo : World, wo = wr := ⟨_, rfl⟩
        by_cases hn : x - s.size < 0
        · have HF := Lib.hid (show szL left xs = -1 by rw [← HX.out, HZ.out, if_pos hn])
          go_wp2_with (go_at_call 73; (with_reducible refine (szAirway_any s f t l se fr sh x _ hsz ⟨hx0, hx1⟩).mono ?_); rw [if_pos hn]; rintro e w1 ⟨rfl, hd⟩)
          go_ret
          exact ⟨ret_int HF.out.symm, hbel.trans (hd.mono hbel.size)⟩
        · have HF := Lib.hid (show szGo (x - s.size) (xs.drop (k + 1)) = szL left xs by rw [← HX.out, HZ.out, if_neg hn])
          go_wp2_with (go_at_call 73; (with_reducible refine (szAirway_any s f t l se fr sh x _ hsz ⟨hx0, hx1⟩).mono ?_); rw [if_neg hn]; rintro e w1 ⟨rfl, hd⟩)
          go_roundw
          case rel => exact ⟨k + 1, _, by omega, by go_num, rfl, by omega, by omega, HF, hbel.trans (hd.mono hbel.size)⟩
          case measure => simp [intOf]; omega
      · obtain rfl : k = xs.length := by omega
        have HF := Lib.hid (show x = szL left xs by rw [← HX.out, List.drop_length]; rfl)
        go_wp2
        go_ret
        exact ⟨ret_int HF.out, hbel⟩
theorem szMine_any (J : Int) (A : Option Addr) (cap : Nat) (xs : List Aw) (left : Int) (w : World) (hr : AwR w A xs) (hs : ∀ a ∈ xs, a.s.size ≤ maxLen) (hl : xs.length ≤ maxLen) (h0 : 0 ≤ left ∧ left ≤ 1048576) :
    Calls Try.prog 9 #[.agg #[.int .i64 J, .slice A xs.length cap], .int .i64 left] w fun e w' => e = .returned (.int .i64 (szL left xs)) ∧ Below w.heap.size w w' := by
  have hbd := szL_le (xs := xs) h0.1
  have HR := Lib.hid (hr.below (below_box w (.cells #[.int .i64 J, .slice A xs.length cap] 24)))
  have HS := Lib.hid hs
  clear hr hs
  by_cases hn : szL left xs < 0
  · have HE := Lib.hid (show szL left xs = -1 by omega)
    go_enter Try.func9, Try.ntmps9
    go_wp2_with (go_at_call 38; (with_reducible refine (szAirwayS_any A cap xs left _ HR.out HS.out hl h0).mono ?_); rintro e w1 ⟨rfl, hd⟩)
    go_ret
    exact ⟨ret_int HE.out.symm, (below_box _ _).trans (hd.mono (by simp))⟩
  · go_enter Try.func9, Try.ntmps9
    go_wp2_with (go_at_call 38; (with_reducible refine (szAirwayS_any A cap xs left _ HR.out HS.out hl h0).mono ?_); rintro e w1 ⟨rfl, hd⟩)
    go_ret
    exact ⟨rfl, (below_box _ _).trans (hd.mono (by simp))⟩

theorem info_aw : (Try.prog.info? 103).map (fun i => (i.zero, i.size, i.bytes)) = some (some (.agg Aw.none.cells.toArray), 7, 64) := by kernel_rfl
theorem made_aws (n : Nat) : (madeCells Aw.none.cells.toArray (n * 7)).toList = awsV (List.replicate n Aw.none) := aws_made n
theorem run_make_rows {P : Program} {t e : TypeId} {i : TypeInfo} {z : Value} (ht : P.underlying t = some (.slice e)) (hi : P.info? e = some i) (hz : i.zero = some z)
    (kl kc : IntKind) (n : Nat) (hbytes : i.bytes * n ≤ 281474976710656) (h63 : n ≤ 9223372036854775807) (w : World) :
    (Instr.makeSlice t (.int kl (n : Int)) (.int kc (n : Int))).run P w = .ok (.slice (some ⟨w.heap.size, 0, none⟩) n n) (w.alloc (.cells (madeCells z.cells (n * i.size)) e)) := by
  have hb : (i.bytes : Int) * (n : Int) ≤ 281474976710656 := by
    have h : ((i.bytes * n : Nat) : Int) ≤ 281474976710656 := by omega
    rwa [Int.natCast_mul] at h
  have hr := run_make (P := P) w t e i z ht hi hz kl kc (n : Int) (n : Int) (by omega) (by omega) hb (by omega)
  simpa using hr
set_option maxHeartbeats 1000000 in
set_option maxRecDepth 100000 in
theorem toAirwayS_any (A : Option Addr) (cap : Nat) (xs : List Aw) (w : World) (hr : AwR w A xs) (hl : xs.length ≤ 1048576) :
    Calls Try.prog 42 #[.slice A xs.length cap] w fun e w' => ∃ g, e = .returned (.slice (some ⟨g, 0, none⟩) xs.length xs.length) ∧ BlkV w' g 103 (awsV xs) ∧ w.heap.size ≤ g ∧ Below w.heap.size w w' := by
  obtain ⟨i0, hi, hz0, hz1, hz2⟩ := info_parts info_aw
  have hmk := fun W => run_make_rows (P := Try.prog) Try.underlying29 hi hz0 .i64 .i64 xs.length (by rw [hz2]; omega) (by omega) W
  rw [hz1] at hmk
  have HR := Lib.hid hr
  clear hr
  have HI := Lib.hid (show (Try.prog.info? 103).map (·.size) = some 7 by rw [hi]; simp [hz1])
  clear hi hz0 hz1 hz2
  go_enter Try.func42, Try.ntmps42
  go_wp2
  clear hmk
  go_loopw [4] (fun i wr => ∃ k : Nat, k ≤ xs.length ∧ i = .int .i64 k ∧ BlkV wr w.heap.size 103 (awsV (xs.take k ++ List.replicate (xs.length - k) Aw.none)) ∧ Below w.heap.size w wr) (fun i wr => xs.length - (intOf i).toNat)
  case atStart =>
    refine ⟨0, by omega, rfl, ?_, (Below.refl _ _).alloc (Nat.le_refl _) _⟩
    unfold BlkV
    rw [List.take_zero, List.nil_append, Nat.sub_zero, ← made_aws, Array.toArray_toList]
    exact heap_alloc_new w _
  case round =>
    obtain ⟨k, hk, rfl, hblk, hbel⟩ := hrel
    by_cases hlt : k < xs.length
    · obtain ⟨b, off, rfl, hrg⟩ := HR.out k hlt
      have hrg' := rangeAt_below hrg hbel (rangeAt_lt hrg (by simp [Aw.cells]))
      obtain ⟨⟨c0, c1, c2, c3⟩, c4, c5, c6⟩ := lay_row hrg'
      have HP := Lib.hid (aws_put xs k hlt)
      have HB := Lib.hid hblk
      have HLn := Lib.hid (show (awsV (xs.take k ++ List.replicate (xs.length - k) Aw.none)).length = xs.length * 7 by rw [awsV_len]; simp; omega)
      have hkl : k < (xs.take k ++ List.replicate (xs.length - k) Aw.none).length := by rw [List.length_append, List.length_take, List.length_replicate]; omega
      have HN := Lib.hid (show (xs.take k ++ List.replicate (xs.length - k) Aw.none)[k]'hkl = Aw.none by rw [List.getElem_append_right (by rw [List.length_take]; omega)]; simp)
      clear hrg hrg' hblk
      generalize xs[k] = y at *
      obtain ⟨s, f, t, l, se, fr, sh⟩ := y
      dsimp only at c0 c1 c2 c3 c4 c5 c6
      obtain ⟨wo, rfl⟩ : ∃ wo : World, wo = wr := ⟨_, rfl⟩
      go_wp2_with fail
      refine (toAirway_any s f t l se fr sh _).mono ?_
      rintro e w1 ⟨rfl, hd⟩
      have HB1 := Lib.hid (HB.out.below hd HB.out.lt)
      obtain ⟨⟨⟨d0, d1, d2, d3⟩, d4, d5, d6⟩, ⟨f0, f1, f2, f3⟩, f4, f5, f6⟩ := BlkV.cells7 HB1.out k hkl
      rw [HN.out] at d0 d1 d2 d3 d4 d5 d6
      dsimp only [Aw.none] at d0 d1 d2 d3 d4 d5 d6
      go_wp2
      go_roundw
      case rel => exact ⟨k + 1, by omega, by go_num, by rw [← HP.out]; exact BlkV.set7 HB1.out (k * 7) ⟨s, f, t, l, se, fr, sh⟩ (by rw [HLn.out]; omega), below_set7 (hbel.trans (hd.mono hbel.size)) (Nat.le_refl _) (k * 7) ⟨s, f, t, l, se, fr, sh⟩⟩
      case measure => simp [intOf]; omega
    · obtain rfl : k = xs.length := by omega
      go_wp2
      go_ret
      exact ⟨_, rfl, by simpa using hblk, Nat.le_refl _, hbel⟩
end Go.Proofs.Ythbofhlfggkolaa
