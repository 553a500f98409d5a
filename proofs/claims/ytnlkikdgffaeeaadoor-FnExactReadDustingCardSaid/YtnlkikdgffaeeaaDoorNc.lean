/-
  Contracts of ReadDecimal of chapter 1: the program's. Conditions: those that each theorem states.
-/
import Derived.Test.YtnlkikdgffaeeaaDoorNb
import Derived.Test.YtnlkikdgffaeeaaDoorBj
import Derived.Test.YtnlkikdgffaeeaaDoorShB
namespace Go.Proofs.YtnlkikdgffaeeaaDoor
open Go.RowKit
set_option linter.unusedVariables false
set_option linter.unusedSimpArgs false

/-- The two errors of strconv that are read. -/
def ErrV (w : World) : Prop := (∃ tp p, w.var? Tryd.prog "strconv.ErrSyntax" = some #[.iface tp p]) ∧ ∃ tp p, w.var? Tryd.prog "strconv.ErrRange" = some #[.iface tp p]
theorem gES : Tryd.prog.globalNamed "strconv.ErrSyntax" = some 2 := by kernel_rfl
theorem gER : Tryd.prog.globalNamed "strconv.ErrRange" = some 3 := by kernel_rfl
theorem var_below {w w' : World} {nm : String} {g : Nat} {v : Array Value} (hg : Tryd.prog.globalNamed nm = some g) (h : w.var? Tryd.prog nm = some v) (hb : Below w.heap.size w w') : w'.var? Tryd.prog nm = some v := by
  unfold World.var? at h ⊢
  simp only [hg, Option.bind_some] at h ⊢
  rw [hb.block _ ?_]
  · exact h
  · rcases Nat.lt_or_ge g w.heap.size with q | q
    · exact q
    · rw [Array.getElem?_eq_none q] at h; cases h
theorem ErrV.below {w w' : World} (h : ErrV w) (hb : Below w.heap.size w w') : ErrV w' := by
  obtain ⟨⟨a, b, h1⟩, c, d, h2⟩ := h
  exact ⟨⟨a, b, var_below gES h1 hb⟩, c, d, var_below gER h2 hb⟩
theorem trim_eq (l : List UInt8) : Lib.trimPrefix l [45] = trimS l := by
  cases l with
  | nil => rfl
  | cons c r =>
    by_cases h : c = 45
    · subst h; simp [Lib.trimPrefix, Lib.hasPrefix, trimS]
    · simp only [trimS, if_neg h]
      have : Lib.hasPrefix (c :: r) [45] = false := by
        unfold Lib.hasPrefix
        show ((45 : UInt8) == c && List.isPrefixOf [] r) = false
        rw [beq_false_of_ne (Ne.symm h)]
        rfl
      unfold Lib.trimPrefix
      rw [this]; rfl
theorem freeze_below (w : World) (o : Obj) (n : Nat) : Below w.heap.size w ((w.drew.alloc o).freeze ⟨w.heap.size, n, none⟩ 1) := by
  have h1 : Below w.heap.size w (w.drew.alloc o) := (Below.drew (Below.refl _ _)).alloc (Nat.le_refl _) o
  refine ⟨h1.os, h1.tape, h1.output, ?_, ?_⟩
  · show w.heap.size ≤ ((w.drew.alloc o).heap.modify w.heap.size _).size
    rw [Array.size_modify]; exact h1.size
  · intro k hk
    rw [← h1.block k hk]
    show ((w.drew.alloc o).heap.modify w.heap.size _)[k]? = _
    rw [Array.getElem?_modify]
    simp; omega
theorem bytes_below {w w' : World} {t : TypeId} (h : w' = w ∨ ∃ s, w' = Lib.bytesWorld w t s) : Below w.heap.size w w' := by
  rcases h with rfl | ⟨s, rfl⟩
  · exact Below.refl _ _
  · exact freeze_below w _ _
theorem parse_ok (s : ByteArray) (hs : s.size ≤ 281474976710656) (v : Int) (h : Lib.parseIntB 64 s.data.toList = .ok v) (w : World) :
    Calls Tryd.prog 50 #[.string s, .int .i64 10, .int .i64 64] w fun e w' => e = .returned (.tuple #[.int .i64 v, .nilIface]) ∧ Below w.heap.size w w' :=
  (Tryd.strconv_ParseInt_10_at64_ok s (by omega) v h w).mono fun _ _ ⟨e, h⟩ => ⟨e, bytes_below h⟩
/-- What is left of ParseInt where it fails. -/
theorem parse_bad (s : ByteArray) (hs : s.size ≤ 281474976710656) (h : ∀ v, Lib.parseIntB 64 s.data.toList ≠ .ok v) (w : World) (hE : ErrV w) :
    Calls Tryd.prog 50 #[.string s, .int .i64 10, .int .i64 64] w fun e w' => ∃ (v : Int) (N : Nat), e = .returned (.tuple #[.int .i64 v, .iface 107 (.pointer (some ⟨N, 0, none⟩))]) ∧ Below w.heap.size w w' := by
  obtain ⟨⟨a, b, h1⟩, c, d, h2⟩ := hE
  cases hp : Lib.parseIntB 64 s.data.toList with
  | ok v => exact absurd hp (h v)
  | «syntax» => exact (Tryd.strconv_ParseInt_10_at64_syntax_var s hs hp a b w h1).mono fun _ _ ⟨N, e, _, _, hb⟩ => ⟨_, N, e, hb⟩
  | range => exact (Tryd.strconv_ParseInt_10_at64_range_var s hs hp c d w h2).mono fun _ _ ⟨N, e, _, _, hb⟩ => ⟨_, N, e, hb⟩
theorem trim_call (s : ByteArray) (w : World) : Calls Tryd.prog 49 #[.string s, .string ⟨#[45]⟩] w fun e w' => e = .returned (.string ⟨(trimS s.data.toList).toArray⟩) ∧ w = w' :=
  (Tryd.strings_TrimPrefix s ⟨#[45]⟩ w).mono fun _ _ ⟨e, h⟩ => ⟨by rw [e, show (ByteArray.mk #[45]).data.toList = [45] from rfl, trim_eq], h.symm⟩
theorem size_mk (l : List UInt8) : (⟨l.toArray⟩ : ByteArray).size = l.length := by show l.toArray.size = _; simp
theorem toList_mk (l : List UInt8) : (⟨l.toArray⟩ : ByteArray).toList = l := by rw [ByteArray.toList_eq]
set_option maxHeartbeats 1000000 in
theorem iReadDecimal_any (s : ByteArray) (w : World) (hs : s.size ≤ 281474976710656) (hP : Pow w) (hE : ErrV w) :
    Calls Tryd.prog 42 #[.string s] w fun e w' => e = .returned (.tuple #[.int .i64 (numV s.data.toList), .bool (numB s.data.toList)]) ∧ Below w.heap.size w w' := by
  have hsz : (⟨(trimS s.data.toList).toArray⟩ : ByteArray).size = (trimS s.data.toList).length := size_mk _
  by_cases h18 : 18 < (trimS s.data.toList).length
  · have HE := Lib.hid (num_no (num_long h18))
    have t1 : (18 : Int) < ((⟨(trimS s.data.toList).toArray⟩ : ByteArray).size : Int) := by omega
    clear hsz
    have HC := Lib.hid (trim_call s)
    generalize (⟨(trimS s.data.toList).toArray⟩ : ByteArray) = ts at *
    go_enter Tryd.func42, Tryd.ntmps42
    go_wp2_with (go_at_call 49; refine (HC.out _).mono ?_; rintro e w' ⟨rfl, rfl⟩)
    go_ret2
    exact ⟨ret_pair HE.out.1.symm HE.out.2.symm, Below.refl _ _⟩
  · have t1 : ((⟨(trimS s.data.toList).toArray⟩ : ByteArray).size : Int) ≤ 18 := by omega
    clear hsz
    have HC := Lib.hid (trim_call s)
    generalize (⟨(trimS s.data.toList).toArray⟩ : ByteArray) = ts at *
    by_cases hok : ∃ v, Lib.parseIntB 64 s.data.toList = .ok v
    · obtain ⟨v, hv⟩ := hok
      have hvb := Lib.parseIntB_bounds hv
      have hv1 : -9223372036854775808 ≤ v := hvb.1
      have hv2 : v ≤ 9223372036854775807 := by have := hvb.2; have e : ((2 ^ (64 - 1) : Nat) : Int) = 9223372036854775808 := rfl; omega
      have HV := Lib.hid hv
      have HP := Lib.hid hP
      have hD := toList_mk (Lib.itoa v)
      have HI := Lib.hid (fun W (h : Pow W) => iDecimal_any v W hv1 hv2 h)
      by_cases heq : Lib.itoa v = s.data.toList
      · have HE := Lib.hid (num_yes (show numOf s.data.toList = some v by rw [← heq]; exact num_itoa (by rw [heq]; exact Nat.not_lt.1 h18)))
        have hq : (Lib.itoa v == s.toList) = true := by rw [ByteArray.toList_eq, heq]; exact beq_self_eq_true _
        clear hv hvb hP heq h18
        generalize (⟨(Lib.itoa v).toArray⟩ : ByteArray) = ds at *
        generalize Lib.itoa v = dl at *
        subst hD
        go_enter Tryd.func42, Tryd.ntmps42
        go_wp2_with (first
          | (go_at_call 49; refine (HC.out _).mono ?_; rintro e w' ⟨rfl, rfl⟩)
          | (go_at_call 50; refine (parse_ok s hs v HV.out _).mono ?_; rintro e w1 ⟨rfl, hb1⟩)
          | (go_at_call 26; refine (HI.out w1 (HP.out.below hb1)).mono ?_; rintro e w2 ⟨rfl, hb2⟩))
        go_ret2
        exact ⟨ret_pair HE.out.1.symm HE.out.2.symm, hb1.trans (hb2.mono hb1.size)⟩
      · have HE := Lib.hid (num_no (num_other hv heq))
        have hq : (Lib.itoa v == s.toList) = false := by rw [ByteArray.toList_eq]; exact beq_false_of_ne heq
        clear hv hvb hP heq h18
        generalize (⟨(Lib.itoa v).toArray⟩ : ByteArray) = ds at *
        generalize Lib.itoa v = dl at *
        subst hD
        go_enter Tryd.func42, Tryd.ntmps42
        go_wp2_with (first
          | (go_at_call 49; refine (HC.out _).mono ?_; rintro e w' ⟨rfl, rfl⟩)
          | (go_at_call 50; refine (parse_ok s hs v HV.out _).mono ?_; rintro e w1 ⟨rfl, hb1⟩)
          | (go_at_call 26; refine (HI.out w1 (HP.out.below hb1)).mono ?_; rintro e w2 ⟨rfl, hb2⟩))
        go_ret2
        exact ⟨ret_pair HE.out.1.symm HE.out.2.symm, hb1.trans (hb2.mono hb1.size)⟩
    · have hno : ∀ v, Lib.parseIntB 64 s.data.toList ≠ .ok v := fun v h => hok ⟨v, h⟩
      have HE := Lib.hid (num_no (num_bad hno))
      have HN := Lib.hid hno
      have HEr := Lib.hid hE
      clear hno hok hE hP h18
      go_enter Tryd.func42, Tryd.ntmps42
      go_wp2_with (first
        | (go_at_call 49; refine (HC.out _).mono ?_; rintro e w' ⟨rfl, rfl⟩)
        | (go_at_call 50; refine (parse_bad s hs HN.out _ HEr.out).mono ?_; rintro e w1 ⟨v, N, rfl, hb1⟩))
      go_ret2
      exact ⟨ret_pair HE.out.1.symm HE.out.2.symm, hb1⟩
end Go.Proofs.YtnlkikdgffaeeaaDoor
