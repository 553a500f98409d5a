/-
  Contracts of mines that are compared: the library's slices.Equal at airways, the model's and the program's SameMine. Conditions: those that each theorem states.
-/
import Derived.Test.YtkbgfajkcdjjiaaGe
import Derived.Test.YtkbgfajkcdjjiaaGd
import Derived.Laws.StructEq
import Derived.Deep.QuietTactic
import Derived.BigQuiet
namespace Go.Proofs.Ytkbgfajkcdjjiaa
open Go.RowKit
set_option linter.unusedVariables false
set_option linter.unusedSimpArgs false

noncomputable def sameA (xs ys : List Aw) : Bool := @decide (xs = ys) (Classical.propDecidable _)
noncomputable def sameM (J J' : Int) (xs ys : List Aw) : Bool := (J == J') && sameA xs ys
theorem sameA_true {xs ys : List Aw} (h : xs = ys) : sameA xs ys = true := by unfold sameA; exact @decide_eq_true _ (Classical.propDecidable _) h
theorem sameA_false {xs ys : List Aw} (h : xs ≠ ys) : sameA xs ys = false := by unfold sameA; exact @decide_eq_false _ (Classical.propDecidable _) h
theorem bytes_eq {a b : ByteArray} (h : a.toList = b.toList) : a = b := by
  rw [ByteArray.toList_eq, ByteArray.toList_eq] at h
  obtain ⟨⟨x⟩⟩ := a
  obtain ⟨⟨y⟩⟩ := b
  exact congrArg (fun l => ByteArray.mk (Array.mk l)) h
theorem aw_diff (y z : Aw) : y = z ∨ (y ≠ z ∧ (((y.s.toList == z.s.toList) = false) ∨ (y.s = z.s ∧ (y.f == z.f) = false) ∨ (y.s = z.s ∧ y.f = z.f ∧ (y.t == z.t) = false) ∨ (y.s = z.s ∧ y.f = z.f ∧ y.t = z.t ∧ (y.l == z.l) = false) ∨ (y.s = z.s ∧ y.f = z.f ∧ y.t = z.t ∧ y.l = z.l ∧ (y.se == z.se) = false) ∨ (y.s = z.s ∧ y.f = z.f ∧ y.t = z.t ∧ y.l = z.l ∧ y.se = z.se ∧ (y.fr == z.fr) = false) ∨ (y.s = z.s ∧ y.f = z.f ∧ y.t = z.t ∧ y.l = z.l ∧ y.se = z.se ∧ y.fr = z.fr ∧ (y.sh == z.sh) = false))) := by
  by_cases h : y = z
  · exact .inl h
  · refine .inr ⟨h, ?_⟩
    by_cases e0 : y.s = z.s
    · by_cases e1 : y.f = z.f
      · by_cases e2 : y.t = z.t
        · by_cases e3 : y.l = z.l
          · by_cases e4 : y.se = z.se
            · by_cases e5 : y.fr = z.fr
              · have e6 : y.sh ≠ z.sh := fun e6 => h (by obtain ⟨_, _, _, _, _, _, _⟩ := y; obtain ⟨_, _, _, _, _, _, _⟩ := z; simp_all)
                exact .inr (.inr (.inr (.inr (.inr (.inr ⟨e0, e1, e2, e3, e4, e5, beq_false_of_ne e6⟩)))))
              · exact .inr (.inr (.inr (.inr (.inr (.inl ⟨e0, e1, e2, e3, e4, beq_false_of_ne e5⟩)))))
            · exact .inr (.inr (.inr (.inr (.inl ⟨e0, e1, e2, e3, beq_false_of_ne e4⟩))))
          · exact .inr (.inr (.inr (.inl ⟨e0, e1, e2, beq_false_of_ne e3⟩)))
        · exact .inr (.inr (.inl ⟨e0, e1, beq_false_of_ne e2⟩))
      · exact .inr (.inl ⟨e0, beq_false_of_ne e1⟩)
    · exact .inl (beq_false_of_ne fun e => e0 (bytes_eq e))
theorem same_of {xs ys : List Aw} {n : Nat} (h : ∀ j, j < n → xs[j]? = ys[j]?) (h1 : xs.length ≤ n) (h2 : ys.length ≤ n) : xs = ys := by
  refine List.ext_getElem? fun j => ?_
  by_cases hj : j < n
  · exact h j hj
  · rw [List.getElem?_eq_none (by omega), List.getElem?_eq_none (by omega)]
theorem same_step {xs ys : List Aw} {k : Nat} (h : ∀ j, j < k → xs[j]? = ys[j]?) (hk : xs[k]? = ys[k]?) : ∀ j, j < k + 1 → xs[j]? = ys[j]? := fun j hj => by
  by_cases e : j = k
  · subst e; exact hk
  · exact h j (by omega)
set_option maxHeartbeats 2000000 in
set_option maxRecDepth 100000 in
theorem equal_same (A A' : Option Addr) (cap cap' : Nat) (xs ys : List Aw) (w : World) (hr : AwR w A xs) (hr' : AwR w A' ys) (hl : xs.length ≤ 1048576) (hl' : ys.length ≤ 1048576) :
    Calls Try.prog 56 #[.slice A xs.length cap, .slice A' ys.length cap'] w fun e w' => e = .returned (.bool (sameA xs ys)) ∧ ∃ n, w' = w.drewN n := by
  have HR := Lib.hid (And.intro hr hr')
  clear hr hr'
  by_cases hlen : xs.length = ys.length
  · have t1 : ((xs.length : Int) != (ys.length : Int)) = false := by simp [hlen]
    go_enter Try.func56, Try.ntmps56
    go_wp2
    go_loopw [13] (fun i wr => ∃ k n : Nat, k ≤ xs.length ∧ i = .int .i64 k ∧ wr = w.drewN n ∧ Hid (∀ j, j < k → xs[j]? = ys[j]?)) (fun i wr => xs.length - (intOf i).toNat)
    case atStart => exact ⟨0, 0, by omega, rfl, rfl, Lib.hid (fun j hj => absurd hj (by omega))⟩
    case round =>
      obtain ⟨k, n, hk, rfl, rfl, HS⟩ := hrel
      by_cases hlt : k < xs.length
      · have hlt2 : k < ys.length := by omega
        obtain ⟨b, off, rfl, hrg⟩ := HR.out.1 k hlt
        obtain ⟨b', off', rfl, hrg'⟩ := HR.out.2 k hlt2
        obtain ⟨⟨c0, c1, c2, c3⟩, c4, c5, c6⟩ := lay_row hrg
        obtain ⟨⟨d0, d1, d2, d3⟩, d4, d5, d6⟩ := lay_row hrg'
        have HX := Lib.hid (List.getElem?_eq_getElem hlt)
        have HY := Lib.hid (List.getElem?_eq_getElem hlt2)
        clear hrg hrg'
        generalize xs[k] = y at *
        generalize ys[k] = z at *
        rcases aw_diff y z with hyz | ⟨hyz, hd⟩
        · subst hyz
          obtain ⟨s, f, t, l, se, fr, sh⟩ := y
          dsimp only at c0 c1 c2 c3 c4 c5 c6 d0 d1 d2 d3 d4 d5 d6
          go_wp2
          go_quiet (fail)
          go_wp2
          go_roundw
          case rel => exact ⟨k + 1, _, by omega, by go_num, rfl, Lib.hid (same_step HS.out (HX.out.trans HY.out.symm))⟩
          case measure => simp [intOf]; omega
        · have HE := Lib.hid (show sameA xs ys = false from sameA_false fun e => hyz (by have h := HX.out; rw [e, HY.out] at h; injection h with h; exact h.symm))
          clear hyz
          obtain ⟨s, f, t, l, se, fr, sh⟩ := y
          obtain ⟨s', f', t', l', se', fr', sh'⟩ := z
          dsimp only at c0 c1 c2 c3 c4 c5 c6 d0 d1 d2 d3 d4 d5 d6 hd
          rcases hd with q | ⟨rfl, q⟩ | ⟨rfl, rfl, q⟩ | ⟨rfl, rfl, rfl, q⟩ | ⟨rfl, rfl, rfl, rfl, q⟩ | ⟨rfl, rfl, rfl, rfl, rfl, q⟩ | ⟨rfl, rfl, rfl, rfl, rfl, rfl, q⟩
          · skip
            go_wp2
            go_quiet (fail)
            go_wp2
            go_ret
            exact ⟨ret_bool HE.out.symm, n + nq, by first | rfl | (simp; done) | exact (World.drewN_drewN _ _ _)⟩
          · skip
            go_wp2
            go_quiet (fail)
            go_wp2
            go_ret
            exact ⟨ret_bool HE.out.symm, n + nq, by first | rfl | (simp; done) | exact (World.drewN_drewN _ _ _)⟩
          · skip
            go_wp2
            go_quiet (fail)
            go_wp2
            go_ret
            exact ⟨ret_bool HE.out.symm, n + nq, by first | rfl | (simp; done) | exact (World.drewN_drewN _ _ _)⟩
          · skip
            go_wp2
            go_quiet (fail)
            go_wp2
            go_ret
            exact ⟨ret_bool HE.out.symm, n + nq, by first | rfl | (simp; done) | exact (World.drewN_drewN _ _ _)⟩
          · skip
            go_wp2
            go_quiet (fail)
            go_wp2
            go_ret
            exact ⟨ret_bool HE.out.symm, n + nq, by first | rfl | (simp; done) | exact (World.drewN_drewN _ _ _)⟩
          · skip
            go_wp2
            go_quiet (fail)
            go_wp2
            go_ret
            exact ⟨ret_bool HE.out.symm, n + nq, by first | rfl | (simp; done) | exact (World.drewN_drewN _ _ _)⟩
          · skip
            go_wp2
            go_quiet (fail)
            go_wp2
            go_ret
            exact ⟨ret_bool HE.out.symm, n + nq, by first | rfl | (simp; done) | exact (World.drewN_drewN _ _ _)⟩
      · have HE := Lib.hid (show sameA xs ys = true from sameA_true (same_of HS.out (by omega) (by omega)))
        go_wp2
        go_ret
        exact ⟨ret_bool HE.out.symm, _, rfl⟩
  · have t1 : ((xs.length : Int) != (ys.length : Int)) = true := by simp; omega
    have HE := Lib.hid (show sameA xs ys = false from sameA_false fun e => hlen (by rw [e]))
    go_enter Try.func56, Try.ntmps56
    go_wp2
    go_ret
    exact ⟨ret_bool HE.out.symm, 0, rfl⟩
set_option maxHeartbeats 2000000 in
set_option maxRecDepth 100000 in
theorem iSameMine_any (J J' : Int) (A A' : Option Addr) (cap cap' : Nat) (xs ys : List Aw) (w : World) (hr : AwR w A xs) (hr' : AwR w A' ys) (hl : xs.length ≤ 1048576) (hl' : ys.length ≤ 1048576) :
    Calls Try.prog 20 #[.agg #[.int .i64 J, .slice A xs.length cap], .agg #[.int .i64 J', .slice A' ys.length cap']] w fun e w' => e = .returned (.bool (sameM J J' xs ys)) ∧ Below w.heap.size w w' := by
  have HB0 := Lib.hid (show Below w.heap.size w ((w.alloc (.cells #[.int .i64 J, .slice A xs.length cap] 29)).alloc (.cells #[.int .i64 J', .slice A' ys.length cap'] 29)) from (by repeat (first | (with_reducible exact Below.refl _ _) | (with_reducible refine below_drewN' ?_ _) | (with_reducible refine Below.alloc ?_ (by simp <;> omega) _) | (with_reducible refine Below.setCell ?_ (by simp) _))))
  have HR := Lib.hid (And.intro (hr.below HB0.out) (hr'.below HB0.out))
  clear hr hr'
  by_cases hJ : J = J'
  · subst hJ
    have t1 : (J == J) = true := by simp
    go_enter Try.func20, Try.ntmps20
    go_wp2_with fail
    refine (equal_same A A' cap cap' xs ys _ HR.out.1 HR.out.2 hl hl').mono ?_
    rintro e w1 ⟨rfl, n, rfl⟩
    go_wp2
    go_ret
    exact ⟨ret_bool (by unfold sameM; simp), below_drewN' HB0.out n⟩
  · have t1 : (J == J') = false := beq_false_of_ne hJ
    go_enter Try.func20, Try.ntmps20
    go_wp2
    go_ret
    exact ⟨ret_bool (by unfold sameM; rw [t1]; rfl), HB0.out⟩
set_option maxHeartbeats 2000000 in
set_option maxRecDepth 100000 in
theorem sSameMine_any (J J' : Int) (A A' : Option Addr) (cap cap' : Nat) (xs ys : List Aw) (w : World) (hr : AwR w A xs) (hr' : AwR w A' ys) (hl : xs.length ≤ 1048576) (hl' : ys.length ≤ 1048576) :
    Calls Try.prog 19 #[.agg #[.int .i64 J, .slice A xs.length cap], .agg #[.int .i64 J', .slice A' ys.length cap']] w fun e w' => e = .returned (.bool (sameM J J' xs ys)) ∧ Below w.heap.size w w' := by
  have HB0 := Lib.hid (show Below w.heap.size w ((w.alloc (.cells #[.int .i64 J, .slice A xs.length cap] 29)).alloc (.cells #[.int .i64 J', .slice A' ys.length cap'] 29)) from (by repeat (first | (with_reducible exact Below.refl _ _) | (with_reducible refine below_drewN' ?_ _) | (with_reducible refine Below.alloc ?_ (by simp <;> omega) _) | (with_reducible refine Below.setCell ?_ (by simp) _))))
  have HR := Lib.hid (And.intro (hr.below HB0.out) (hr'.below HB0.out))
  clear hr hr'
  by_cases hJ : J = J'
  · subst hJ
    have t1 : (J != J) = false := by simp
    by_cases hlen : xs.length = ys.length
    · have t2 : ((xs.length : Int) != (ys.length : Int)) = false := by simp [hlen]
      have HLN := Lib.hid hlen
      clear hlen
      go_enter Try.func19, Try.ntmps19
      go_wp2
      go_loopw [5] (fun i wr => ∃ k n : Nat, k ≤ xs.length ∧ i = .int .i64 k ∧ wr = ((w.alloc (.cells #[.int .i64 J, .slice A xs.length cap] 29)).alloc (.cells #[.int .i64 J, .slice A' ys.length cap'] 29)).drewN n ∧ Hid (∀ j, j < k → xs[j]? = ys[j]?)) (fun i wr => xs.length - (intOf i).toNat)
      case atStart => exact ⟨0, 0, by omega, rfl, rfl, Lib.hid (fun j hj => absurd hj (by omega))⟩
      case round =>
        obtain ⟨k, n, hk, rfl, rfl, HS⟩ := hrel
        by_cases hlt : k < xs.length
        · have hlt2 : k < ys.length := by have := HLN.out; omega
          obtain ⟨b, off, rfl, hrg⟩ := HR.out.1 k hlt
          obtain ⟨b', off', rfl, hrg'⟩ := HR.out.2 k hlt2
          obtain ⟨⟨c0, c1, c2, c3⟩, c4, c5, c6⟩ := lay_row hrg
          obtain ⟨⟨d0, d1, d2, d3⟩, d4, d5, d6⟩ := lay_row hrg'
          have HX := Lib.hid (List.getElem?_eq_getElem hlt)
          have HY := Lib.hid (List.getElem?_eq_getElem hlt2)
          clear hrg hrg'
          generalize xs[k] = y at *
          generalize ys[k] = z at *
          rcases aw_diff y z with hyz | ⟨hyz, hd⟩
          · subst hyz
            obtain ⟨s, f, t, l, se, fr, sh⟩ := y
            dsimp only at c0 c1 c2 c3 c4 c5 c6 d0 d1 d2 d3 d4 d5 d6
            go_wp2
            go_quiet (fail)
            go_wp2
            go_roundw
            case rel => exact ⟨k + 1, _, by omega, by go_num, rfl, Lib.hid (same_step HS.out (HX.out.trans HY.out.symm))⟩
            case measure => simp [intOf]; omega
          · have HE := Lib.hid (show sameA xs ys = false from sameA_false fun e => hyz (by have h := HX.out; rw [e, HY.out] at h; injection h with h; exact h.symm))
            clear hyz
            obtain ⟨s, f, t, l, se, fr, sh⟩ := y
            obtain ⟨s', f', t', l', se', fr', sh'⟩ := z
            dsimp only at c0 c1 c2 c3 c4 c5 c6 d0 d1 d2 d3 d4 d5 d6 hd
            rcases hd with q | ⟨rfl, q⟩ | ⟨rfl, rfl, q⟩ | ⟨rfl, rfl, rfl, q⟩ | ⟨rfl, rfl, rfl, rfl, q⟩ | ⟨rfl, rfl, rfl, rfl, rfl, q⟩ | ⟨rfl, rfl, rfl, rfl, rfl, rfl, q⟩
            · skip
              go_wp2
              go_quiet (fail)
              go_wp2
              go_ret
              exact ⟨ret_bool (by unfold sameM; rw [HE.out]; simp), by repeat (first | exact HB0.out | refine below_drewN' ?_ _)⟩
            · skip
              go_wp2
              go_quiet (fail)
              go_wp2
              go_ret
              exact ⟨ret_bool (by unfold sameM; rw [HE.out]; simp), by repeat (first | exact HB0.out | refine below_drewN' ?_ _)⟩
            · skip
              go_wp2
              go_quiet (fail)
              go_wp2
              go_ret
              exact ⟨ret_bool (by unfold sameM; rw [HE.out]; simp), by repeat (first | exact HB0.out | refine below_drewN' ?_ _)⟩
            · skip
              go_wp2
              go_quiet (fail)
              go_wp2
              go_ret
              exact ⟨ret_bool (by unfold sameM; rw [HE.out]; simp), by repeat (first | exact HB0.out | refine below_drewN' ?_ _)⟩
            · skip
              go_wp2
              go_quiet (fail)
              go_wp2
              go_ret
              exact ⟨ret_bool (by unfold sameM; rw [HE.out]; simp), by repeat (first | exact HB0.out | refine below_drewN' ?_ _)⟩
            · skip
              go_wp2
              go_quiet (fail)
              go_wp2
              go_ret
              exact ⟨ret_bool (by unfold sameM; rw [HE.out]; simp), by repeat (first | exact HB0.out | refine below_drewN' ?_ _)⟩
            · skip
              go_wp2
              go_quiet (fail)
              go_wp2
              go_ret
              exact ⟨ret_bool (by unfold sameM; rw [HE.out]; simp), by repeat (first | exact HB0.out | refine below_drewN' ?_ _)⟩
        · have HE := Lib.hid (show sameA xs ys = true from sameA_true (same_of HS.out (by omega) (by have := HLN.out; omega)))
          go_wp2
          go_ret
          exact ⟨ret_bool (by unfold sameM; rw [HE.out]; simp), below_drewN' HB0.out _⟩
    · have t2 : ((xs.length : Int) != (ys.length : Int)) = true := by simp; omega
      have HE := Lib.hid (show sameA xs ys = false from sameA_false fun e => hlen (by rw [e]))
      go_enter Try.func19, Try.ntmps19
      go_wp2
      go_ret
      exact ⟨ret_bool (by unfold sameM; rw [HE.out]; simp), HB0.out⟩
  · have t1 : (J != J') = true := by simp [hJ]
    have t3 : (J == J') = false := beq_false_of_ne hJ
    go_enter Try.func19, Try.ntmps19
    go_wp2
    go_ret
    exact ⟨ret_bool (by unfold sameM; rw [t3]; rfl), HB0.out⟩
end Go.Proofs.Ytkbgfajkcdjjiaa
