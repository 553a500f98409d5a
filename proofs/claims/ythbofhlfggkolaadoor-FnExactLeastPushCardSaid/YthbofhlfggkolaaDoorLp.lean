/-
  Contracts of chapter 12: the least push; pure, and the model's. Conditions: those that each theorem states.
-/
import Derived.Test.YthbofhlfggkolaaDoorOx
import Derived.Test.YthbofhlfggkolaaDoorOj
import Derived.Test.YthbofhlfggkolaaDoorZg
namespace Go.Proofs.YthbofhlfggkolaaDoor
open Go.RowKit
set_option linter.unusedVariables false
set_option linter.unusedSimpArgs false

theorem feas_up {xs : List Aw} {ex ex' : Nat → Int} {rg : List Bool} {Q : Nat → Int} (h1 : ∀ j, ex j ≤ ex' j) (h2 : ∀ j, rg.getD j false = false → ex' j = ex j) :
    ∀ k, Feas (edT xs ex rg k) Q → Feas (edT xs ex' rg k) Q
  | 0, _ => fun e he => absurd he (by simp [edT])
  | k + 1, h => by
    have h' : Feas (edT xs ex rg k ++ edI xs ex rg k) Q := h
    intro e he
    rcases List.mem_append.1 (show e ∈ edT xs ex' rg k ++ edI xs ex' rg k from he) with he | he
    · exact feas_up h1 h2 k (fun e he => h' e (List.mem_append.2 (.inl he))) e he
    · have hA := h' (eA xs ex k) (List.mem_append.2 (.inr (by unfold edI; exact List.mem_cons_self)))
      unfold edI at he
      rcases List.mem_cons.1 he with rfl | he
      · have := h1 k
        unfold eA at hA ⊢
        simp only at hA ⊢
        omega
      · cases hr : rg.getD k false
        · rw [if_neg (by rw [hr]; simp)] at he
          have he' := List.mem_singleton.1 he
          subst he'
          have hB := h' (eB xs ex k) (List.mem_append.2 (.inr (by unfold edI; rw [if_neg (by rw [hr]; simp)]; simp)))
          unfold eB at hB ⊢
          rw [h2 k hr]
          exact hB
        · rw [if_pos hr] at he
          simp at he
/-- The pushes with one that is raised. -/
def puW (pu : List Int) (i : Nat) (t : Int) : List Int := pu.set i (pu.getD i 0 + t)
theorem puW_len (pu : List Int) (i : Nat) (t : Int) : (puW pu i t).length = pu.length := by simp [puW]
theorem puW_at {pu : List Int} {i : Nat} {t : Int} (hi : i < pu.length) (j : Nat) : (puW pu i t).getD j 0 = if j = i then pu.getD i 0 + t else pu.getD j 0 := by
  unfold puW
  simp only [List.getD_eq_getElem?_getD, List.getElem?_set]
  by_cases e : i = j
  · subst e; simp [hi]
  · rw [if_neg e, if_neg (fun h => e h.symm)]
theorem it_le0 {J : Nat} {es : List Ed} (ho : Ok J es) : ∀ (n v : Nat), pv (itR es (List.replicate J 0) n) v ≤ 0
  | 0, v => by rw [itR, pv_rep]; exact Int.le_refl _
  | n + 1, v => by
    have h := rel_le (J := J) es (itR es (List.replicate J 0) n) (by rw [itR_len]; simp) ho v
    have h2 := it_le0 ho n v
    rw [itR]
    omega
/-- Potentials fit when the push at an airway is raised. -/
def lpP (J : Int) (xs : List Aw) (dr pu : List Int) (rg : List Bool) (i : Nat) (t : Int) : Bool := ptOk J.toNat (edT xs (exF dr (puW pu i t)) rg xs.length)
theorem lpP_mono {J : Int} {xs : List Aw} {dr pu : List Int} {rg : List Bool} {i : Nat} {t t' : Int} (hok : mineOk J xs = true) (hi : i < pu.length) (hr : rg.getD i false = true) (h : t ≤ t') (hp : lpP J xs dr pu rg i t = true) : lpP J xs dr pu rg i t' = true := by
  unfold lpP ptOk at hp ⊢
  rw [Bool.not_eq_true'] at hp ⊢
  have ho := edT_ok (ex := exF dr (puW pu i t)) (rg := rg) hok xs.length (Nat.le_refl _)
  have ho' := edT_ok (ex := exF dr (puW pu i t')) (rg := rg) hok xs.length (Nat.le_refl _)
  have hF := feas_of_still _ _ hp
  have hJ := (mineOk_iff.1 hok).1
  refine settles (by omega) ho' ⟨_, feas_up (fun j => ?_) (fun j hj => ?_) _ hF, fun v _ => it_le0 ho _ v⟩
  · unfold exF
    rw [puW_at hi, puW_at hi]
    split <;> omega
  · have hne : j ≠ i := fun e => by rw [e, hr] at hj; cases hj
    unfold exF
    rw [puW_at hi, puW_at hi, if_neg hne, if_neg hne]
def fstL (p : Nat → Bool) : Nat → Nat
  | 0 => 0
  | n + 1 => if fstL p n = n then (if p n then n else n + 1) else fstL p n
theorem fstL_spec (p : Nat → Bool) : ∀ n : Nat, fstL p n ≤ n ∧ (∀ t, t < fstL p n → p t = false) ∧ (fstL p n < n → p (fstL p n) = true)
  | 0 => by simp [fstL]
  | n + 1 => by
    obtain ⟨a, b, c⟩ := fstL_spec p n
    rw [fstL]
    by_cases e : fstL p n = n
    · rw [if_pos e]
      cases hp : p n
      · rw [if_neg (by simp)]
        refine ⟨by omega, fun t ht => ?_, fun h => absurd h (by omega)⟩
        rcases Nat.lt_or_ge t n with q | q
        · exact b t (by omega)
        · obtain rfl : t = n := by omega
          exact hp
      · rw [if_pos rfl]
        exact ⟨by omega, fun t ht => b t (by omega), fun _ => hp⟩
    · rw [if_neg e]
      exact ⟨by omega, b, fun _ => c (by omega)⟩
/-- The least push that is enough; 20001: none. -/
def lpN (J : Int) (xs : List Aw) (dr pu : List Int) (rg : List Bool) (i : Nat) : Nat := fstL (fun t => lpP J xs dr pu rg i (t : Int)) 20001
theorem lpN_spec {J : Int} {xs : List Aw} {dr pu : List Int} {rg : List Bool} {i : Nat} (hok : mineOk J xs = true) (hi : i < pu.length) (hr : rg.getD i false = true) :
    lpN J xs dr pu rg i ≤ 20001 ∧ (∀ t : Nat, t < lpN J xs dr pu rg i → lpP J xs dr pu rg i (t : Int) = false) ∧ (∀ t : Nat, lpN J xs dr pu rg i ≤ t → t < 20001 → lpP J xs dr pu rg i (t : Int) = true) := by
  obtain ⟨a, b, c⟩ := fstL_spec (fun t => lpP J xs dr pu rg i (t : Int)) 20001
  exact ⟨a, b, fun t h1 h2 => lpP_mono hok hi hr (Int.ofNat_le.2 h1) (c (Nat.lt_of_le_of_lt h1 h2))⟩
attribute [irreducible] lpN
/-- What LeastPush returns. -/
def lpC (J : Int) (xs : List Aw) (dr pu : List Int) (rg : List Bool) (a : Int) : Int := if dmC J xs dr pu rg = 0 then (if inB a 0 ((xs.length : Int) - 1) = true then (if rg.getD a.toNat false = true then (if lpN J xs dr pu rg a.toNat = 20001 then 3 else 0) else 6) else 2) else dmC J xs dr pu rg
def lpV (J : Int) (xs : List Aw) (dr pu : List Int) (rg : List Bool) (a : Int) : Int := if dmC J xs dr pu rg = 0 ∧ inB a 0 ((xs.length : Int) - 1) = true ∧ rg.getD a.toNat false = true ∧ lpN J xs dr pu rg a.toNat ≠ 20001 then (lpN J xs dr pu rg a.toNat : Int) else 0
theorem lp_bad {J : Int} {xs : List Aw} {dr pu : List Int} {rg : List Bool} {a : Int} (h : dmC J xs dr pu rg ≠ 0) : lpV J xs dr pu rg a = 0 ∧ lpC J xs dr pu rg a = dmC J xs dr pu rg := ⟨by unfold lpV; rw [if_neg (fun hh => h hh.1)], by unfold lpC; rw [if_neg h]⟩
theorem lp_out {J : Int} {xs : List Aw} {dr pu : List Int} {rg : List Bool} {a : Int} (h : dmC J xs dr pu rg = 0) (h1 : inB a 0 ((xs.length : Int) - 1) = false) : lpV J xs dr pu rg a = 0 ∧ lpC J xs dr pu rg a = 2 := ⟨by unfold lpV; rw [if_neg (fun hh => by rw [h1] at hh; exact absurd hh.2.1 (by simp))], by unfold lpC; rw [if_pos h, if_neg (by rw [h1]; simp)]⟩
theorem lp_free {J : Int} {xs : List Aw} {dr pu : List Int} {rg : List Bool} {k : Nat} (h : dmC J xs dr pu rg = 0) (h1 : inB (k : Int) 0 ((xs.length : Int) - 1) = true) (h2 : rg.getD k false = false) : lpV J xs dr pu rg (k : Int) = 0 ∧ lpC J xs dr pu rg (k : Int) = 6 := ⟨by unfold lpV; rw [if_neg (fun hh => by have := hh.2.2.1; rw [Int.toNat_natCast, h2] at this; exact absurd this (by simp))], by unfold lpC; rw [if_pos h, if_pos h1, if_neg (by rw [Int.toNat_natCast, h2]; simp)]⟩
theorem lp_none {J : Int} {xs : List Aw} {dr pu : List Int} {rg : List Bool} {k : Nat} (h : dmC J xs dr pu rg = 0) (h1 : inB (k : Int) 0 ((xs.length : Int) - 1) = true) (h2 : rg.getD k false = true) (h3 : lpN J xs dr pu rg k = 20001) : lpV J xs dr pu rg (k : Int) = 0 ∧ lpC J xs dr pu rg (k : Int) = 3 := ⟨by unfold lpV; rw [if_neg (fun hh => by have := hh.2.2.2; rw [Int.toNat_natCast] at this; exact this h3)], by unfold lpC; rw [if_pos h, if_pos h1, if_pos (by rw [Int.toNat_natCast]; exact h2), if_pos (by rw [Int.toNat_natCast]; exact h3)]⟩
theorem lp_some {J : Int} {xs : List Aw} {dr pu : List Int} {rg : List Bool} {k : Nat} (h : dmC J xs dr pu rg = 0) (h1 : inB (k : Int) 0 ((xs.length : Int) - 1) = true) (h2 : rg.getD k false = true) (h3 : lpN J xs dr pu rg k ≠ 20001) : lpV J xs dr pu rg (k : Int) = (lpN J xs dr pu rg k : Int) ∧ lpC J xs dr pu rg (k : Int) = 0 := ⟨by unfold lpV; rw [if_pos (by rw [Int.toNat_natCast]; exact ⟨h, h1, h2, h3⟩), Int.toNat_natCast], by unfold lpC; rw [if_pos h, if_pos h1, if_pos (by rw [Int.toNat_natCast]; exact h2), if_neg (by rw [Int.toNat_natCast]; exact h3)]⟩
theorem ret_iiL {a b a' b' : Int} (h1 : a = a') (h2 : b = b') : Ending.returned (.tuple #[.int .i64 a, .int .i64 b]) = .returned (.tuple #[.int .i64 a', .int .i64 b']) := by rw [h1, h2]
theorem own_someP {w : World} {B : Nat} {v : Value} {xs : List Int} (h : OwnI w B v xs) (h0 : 0 < xs.length) : ∃ g cap, v = .slice (some ⟨g, 0, none⟩) xs.length cap ∧ B ≤ g ∧ xs.length ≤ cap := by
  rcases h.2 with ⟨-, h1⟩ | ⟨g, cap, cur, e, hg, -, hcp, -⟩
  · omega
  · exact ⟨g, cap, e, hg, hcp⟩
theorem own_put {w : World} {B g cap : Nat} {xs : List Int} (h : OwnI w B (.slice (some ⟨g, 0, none⟩) xs.length cap) xs) (j : Nat) (y : Int) : OwnI (w.setCell ⟨g, j, none⟩ (.int .i64 y)) B (.slice (some ⟨g, 0, none⟩) xs.length cap) (xs.set j y) := by
  have h' := h
  unfold OwnI at h' ⊢
  have h1 := (h'.stored j (.int .i64 y)).1
  rw [ints_set] at h1
  rw [List.length_set]
  exact h1
theorem own_at {w : World} {B g cap : Nat} {xs : List Int} (h : OwnI w B (.slice (some ⟨g, 0, none⟩) xs.length cap) xs) {j : Nat} (hj : j < xs.length) : w.cell? ⟨g, j, none⟩ = some (.int .i64 (xs.getD j 0)) ∧ w.frozen? ⟨g, j, none⟩ = false := by
  have h' := h
  unfold OwnI at h'
  exact ⟨(World.ownsRow.cellAt h' j (by omega)).trans (by simp [intsV, List.getD, hj]), World.ownsRow.frozenAt h' j⟩
theorem l12With_any (v : Value) (pu : List Int) (i : Nat) (t : Int) (w : World) (hv : Row .i64 w v pu) (hl : pu.length ≤ 1048576) (hi : i < pu.length) (hb : -20000 ≤ pu.getD i 0 ∧ pu.getD i 0 ≤ 20000) (ht : 0 ≤ t ∧ t ≤ 20000) :
    Calls Tryd.prog 50 #[v, .int .i64 (i : Int), .int .i64 t] w fun e w' => ∃ u, e = .returned u ∧ OwnI w' w.heap.size u (puW pu i t) ∧ Below w.heap.size w w' := by
  obtain ⟨A, cap, rfl⟩ := hv.form
  have HV := Lib.hid hv
  clear hv
  go_enter Tryd.func50, Tryd.ntmps50
  go_wp2_with fail
  (with_reducible refine (l00Own_any _ pu _ HV.out hl).mono ?_)
  rintro e w1 ⟨u, rfl, ho, hd⟩
  obtain ⟨g, cg, rfl, hg, hcp⟩ := own_someP ho (by omega)
  obtain ⟨c0, f0⟩ := own_at ho hi
  have HO := Lib.hid ho
  have HB := Lib.hid hd
  have hiI : (i : Int) < (pu.length : Int) := by omega
  have HP := Lib.hid (show pu.set i (pu.getD i 0 + t) = puW pu i t from rfl)
  clear ho hd
  generalize pu.getD i 0 = y at *
  have hw1 : IntKind.i64.wrap (y + t) = y + t := IntWalk.i64_in _ (by omega)
  go_wp2
  go_ret
  exact ⟨_, rfl, by have h := own_put HO.out i (y + t); rw [HP.out] at h; exact h, HB.out.setCell hg _⟩
set_option maxHeartbeats 4000000 in
set_option maxRecDepth 100000 in
theorem sLeastPush_any (J : Int) (A : Option Addr) (cap : Nat) (xs : List Aw) (D : Value) (dr : List Int) (U : Value) (pu : List Int) (G : Option Addr) (gcap : Nat) (rg : List Bool) (a : Int) (w : World) (hr : AwR w A xs) (hs : ∀ a ∈ xs, a.s.size ≤ maxLen) (hl : xs.length ≤ 1048576) (hd : Row .i64 w D dr) (hdl : dr.length ≤ 1048576) (hu : Row .i64 w U pu) (hul : pu.length ≤ 1048576) (hg : BoR w G rg) (hgl : rg.length ≤ 1048576) :
    Calls Tryd.prog 30 #[.agg #[.int .i64 J, .slice A xs.length cap], D, U, .slice G rg.length gcap, .int .i64 a] w fun e w' => e = .returned (.tuple #[.int .i64 (lpV J xs dr pu rg a), .int .i64 (lpC J xs dr pu rg a)]) ∧ Below w.heap.size w w' := by
  obtain ⟨D, dcap, rfl⟩ := hd.form
  obtain ⟨U, ucap, rfl⟩ := hu.form
  have HB0 := Lib.hid (below_box w (.cells #[.int .i64 J, .slice A xs.length cap] 43))
  have HR := Lib.hid (hr.below HB0.out)
  have HD := Lib.hid (hd.below HB0.out)
  have HU := Lib.hid (hu.below HB0.out)
  have HG := Lib.hid (hg.below HB0.out)
  have HC := Lib.hid (show (w.alloc (.cells #[.int .i64 J, .slice A xs.length cap] 43)).cell? ⟨w.heap.size, 0, none⟩ = some (.int .i64 J) ∧ (w.alloc (.cells #[.int .i64 J, .slice A xs.length cap] 43)).cell? ⟨w.heap.size, 1, none⟩ = some (.slice A xs.length cap) from ⟨by simp, by simp⟩)
  have HS := Lib.hid hs
  clear hr hd hu hg hs
  by_cases hc : dmC J xs dr pu rg = 0
  · cases hin : inB a 0 ((xs.length : Int) - 1)
    · have HE := Lib.hid (lp_out hc hin)
      go_enter Tryd.func30, Tryd.ntmps30
      go_wp2_with fail
      (with_reducible refine (l12Ask_any w.heap.size J A cap xs _ dr _ pu G gcap rg _ HC.out.1 HC.out.2 HR.out HS.out hl HD.out hdl HU.out hul hgl).mono ?_)
      rintro e w1 ⟨rfl, hd1⟩
      have HB1 := Lib.hid (HB0.out.trans (hd1.mono HB0.out.size))
      have HR1 := Lib.hid (HR.out.below hd1)
      have HD1 := Lib.hid (HD.out.below hd1)
      have HU1 := Lib.hid (HU.out.below hd1)
      have HG1 := Lib.hid (HG.out.below hd1)
      have HC1 := Lib.hid (And.intro (cellK HC.out.1 hd1) (cellK HC.out.2 hd1))
      have c1 := HC1.out.2
      clear hd1
      rw [hc]
      clear hc
      go_wp2_with (go_at_call 49; (with_reducible refine (l00In_any _ _ _ _).mono ?_); rintro e w' ⟨rfl, rfl⟩)
      go_ret2
      exact ⟨ret_iiL HE.out.1.symm HE.out.2.symm, HB1.out⟩
    · obtain ⟨hb0, hb1⟩ := inB_iff.1 hin
      obtain ⟨k, rfl⟩ := Int.eq_ofNat_of_zero_le hb0
      obtain ⟨hmo, hdo, huo, hgo⟩ := dmC_ok hc
      have h24 := (mineOk_iff.1 hmo).2.2
      have hpl := (flOk_iff.1 huo).1
      have hkl : k < xs.length := by omega
      have hkg : k < rg.length := by omega
      have hkI : (k : Int) < (rg.length : Int) := by omega
      have hkp : k < pu.length := by omega
      have HMO := Lib.hid hmo
      have HDO := Lib.hid hdo
      have HUO := Lib.hid huo
      have HGO := Lib.hid hgo
      have HPL := Lib.hid hpl
      clear hmo hdo huo hgo hpl
      cases hrk : rg.getD k false
      · have HE := Lib.hid (lp_free hc hin hrk)
        go_enter Tryd.func30, Tryd.ntmps30
        go_wp2_with fail
        (with_reducible refine (l12Ask_any w.heap.size J A cap xs _ dr _ pu G gcap rg _ HC.out.1 HC.out.2 HR.out HS.out hl HD.out hdl HU.out hul hgl).mono ?_)
        rintro e w1 ⟨rfl, hd1⟩
        have HB1 := Lib.hid (HB0.out.trans (hd1.mono HB0.out.size))
        have HR1 := Lib.hid (HR.out.below hd1)
        have HD1 := Lib.hid (HD.out.below hd1)
        have HU1 := Lib.hid (HU.out.below hd1)
        have HG1 := Lib.hid (HG.out.below hd1)
        have HC1 := Lib.hid (And.intro (cellK HC.out.1 hd1) (cellK HC.out.2 hd1))
        have c1 := HC1.out.2
        clear hd1
        rw [hc]
        clear hc
        obtain ⟨rb, rof, er, r0⟩ := HG1.out k hkg
        rw [show rg[k] = rg.getD k false by simp [List.getD, hkg], hrk] at r0
        subst er
        go_wp2_with (go_at_call 49; (with_reducible refine (l00In_any _ _ _ _).mono ?_); rintro e w' ⟨rfl, rfl⟩)
        go_ret2
        exact ⟨ret_iiL HE.out.1.symm HE.out.2.symm, HB1.out⟩
      · have hsp := lpN_spec (dr := dr) HMO.out hkp hrk
        have HSP := Lib.hid hsp
        have hm := hsp.1
        have hkb := wf_allO HUO.out hkp
        have HKB := Lib.hid hkb
        have HW := Lib.hid (show ∀ t : Int, 0 ≤ t → t ≤ 20000 → flOk (-40000) 40000 xs.length (puW pu k t) = true from fun t h0 h1 => flOk_iff.2 ⟨by rw [puW_len]; exact HPL.out, fun y hy => by
          obtain ⟨j, hj, rfl⟩ := List.mem_iff_getElem.1 hy
          have hj' : j < pu.length := by rw [puW_len] at hj; exact hj
          have e1 := puW_at (t := t) hkp j
          rw [show (puW pu k t).getD j 0 = (puW pu k t)[j] by simp [List.getD, hj]] at e1
          have e2 := wf_allO HUO.out hj'
          rw [e1]
          split <;> omega⟩)
        have HEN := Lib.hid (And.intro (fun h => lp_none hc hin hrk h) (fun h => lp_some hc hin hrk h))
        clear hsp hkb
        go_enter Tryd.func30, Tryd.ntmps30
        go_wp2_with fail
        (with_reducible refine (l12Ask_any w.heap.size J A cap xs _ dr _ pu G gcap rg _ HC.out.1 HC.out.2 HR.out HS.out hl HD.out hdl HU.out hul hgl).mono ?_)
        rintro e w1 ⟨rfl, hd1⟩
        have HB1 := Lib.hid (HB0.out.trans (hd1.mono HB0.out.size))
        have HR1 := Lib.hid (HR.out.below hd1)
        have HD1 := Lib.hid (HD.out.below hd1)
        have HU1 := Lib.hid (HU.out.below hd1)
        have HG1 := Lib.hid (HG.out.below hd1)
        have HC1 := Lib.hid (And.intro (cellK HC.out.1 hd1) (cellK HC.out.2 hd1))
        have c1 := HC1.out.2
        clear hd1
        rw [hc]
        clear hc
        obtain ⟨rb, rof, er, r0⟩ := HG1.out k hkg
        rw [show rg[k] = rg.getD k false by simp [List.getD, hkg], hrk] at r0
        subst er
        generalize lpN J xs dr pu rg k = m at HSP HEN hm
        clear hrk
        go_wp2_with (go_at_call 49; (with_reducible refine (l00In_any _ _ _ _).mono ?_); rintro e w' ⟨rfl, rfl⟩)
        clear r0 c1 hin
        go_loopw [13, 14] (fun x z wr => ∃ (l : Int) (h : Nat), x = .int .i64 l ∧ z = .int .i64 (h : Int) ∧ (-1 ≤ l ∧ l < (m : Int)) ∧ (m ≤ h ∧ h ≤ 20001) ∧ Hid (Below w1.heap.size w1 wr)) (fun x z wr => (intOf z - intOf x).toNat)
        case atStart => exact ⟨-1, 20001, rfl, rfl, ⟨by omega, by omega⟩, ⟨by omega, by omega⟩, Lib.hid (Below.refl _ _)⟩
        case round =>
          obtain ⟨l, h, rfl, rfl, ⟨hl1, hl2⟩, ⟨hh1, hh2⟩, HBL⟩ := hrel
          by_cases hlt : l + 1 < (h : Int)
          · have t1 : (1 : Int) < (h : Int) - l := by omega
            obtain ⟨t, ht⟩ : ∃ t : Nat, (l + (h : Int)) / 2 = (t : Int) := ⟨((l + (h : Int)) / 2).toNat, by omega⟩
            have hm1 : l < (t : Int) := by omega
            have hm2 : t < h := by omega
            have hs0 : 0 ≤ l + (h : Int) := by omega
            have ht2 : Int.tdiv (l + (h : Int)) 2 = (t : Int) := by rw [Int.tdiv_eq_ediv_of_nonneg hs0, ht]
            go_wp2_with fail
            have HT := Lib.hid (And.intro hm1 hm2)
            have htb : (0 : Int) ≤ (t : Int) ∧ (t : Int) ≤ 20000 := by omega
            clear ht ht2 hs0
            (with_reducible refine (l12With_any _ pu k (t : Int) _ (HU1.out.below HBL.out) hul hkp HKB.out htb).mono ?_)
            rintro e w2 ⟨u, rfl, ho2, hd2⟩
            have HB2 := Lib.hid (HBL.out.trans (hd2.mono HBL.out.size))
            have HU2 := Lib.hid (row_ownI ho2)
            clear ho2 hd2
            go_wp2_with fail
            (with_reducible refine (l12FitW_any w.heap.size J A cap xs _ dr _ (puW pu k (t : Int)) _ gcap rg w2 (cellK HC1.out.1 HB2.out) (cellK HC1.out.2 HB2.out) (HR1.out.below HB2.out) (HD1.out.below HB2.out) HU2.out (HG1.out.below HB2.out) HMO.out HDO.out (HW.out _ htb.1 htb.2) HGO.out).mono ?_)
            rintro e w3 ⟨u3, rfl, ho3, hd3⟩
            have HB3 := Lib.hid (HB2.out.trans (hd3.mono HB2.out.size))
            obtain ⟨A3, c3, rfl⟩ := OwnI.form ho3
            rw [show ptOk J.toNat (edT xs (exF dr (puW pu k (t : Int))) rg xs.length) = lpP J xs dr pu rg k (t : Int) from rfl]
            clear ho3 hd3
            by_cases hmt : m ≤ t
            · rw [HSP.out.2.2 t hmt (by omega)]
              go_wp2
              go_roundw
              case rel => exact ⟨l, t, rfl, rfl, ⟨hl1, hl2⟩, ⟨hmt, by omega⟩, HB3⟩
              case measure => have := HT.out; simp [intOf]; omega
            · rw [HSP.out.2.1 t (by omega)]
              go_wp2
              go_roundw
              case rel => exact ⟨(t : Int), h, rfl, rfl, ⟨by omega, by omega⟩, ⟨hh1, hh2⟩, HB3⟩
              case measure => have := HT.out; simp [intOf]; omega
          · have t1 : ¬ ((1 : Int) < (h : Int) - l) := by omega
            obtain rfl : h = m := by omega
            by_cases hmx : h = 20001
            · have HE := Lib.hid (HEN.out.1 hmx)
              go_wp2
              go_ret2
              exact ⟨ret_iiL HE.out.1.symm HE.out.2.symm, HB1.out.trans (HBL.out.mono HB1.out.size)⟩
            · have HE := Lib.hid (HEN.out.2 hmx)
              go_wp2
              go_ret2
              exact ⟨ret_iiL HE.out.1.symm HE.out.2.symm, HB1.out.trans (HBL.out.mono HB1.out.size)⟩
  · have HE := Lib.hid (lp_bad (a := a) hc)
    have hz1 : (dmC J xs dr pu rg != 0) = true := by simp [hc]
    have hz2 : (dmC J xs dr pu rg == 0) = false := by simp [hc]
    go_enter Tryd.func30, Tryd.ntmps30
    go_wp2_with fail
    (with_reducible refine (l12Ask_any w.heap.size J A cap xs _ dr _ pu G gcap rg _ HC.out.1 HC.out.2 HR.out HS.out hl HD.out hdl HU.out hul hgl).mono ?_)
    rintro e w1 ⟨rfl, hd1⟩
    have HB1 := Lib.hid (HB0.out.trans (hd1.mono HB0.out.size))
    have HR1 := Lib.hid (HR.out.below hd1)
    have HD1 := Lib.hid (HD.out.below hd1)
    have HU1 := Lib.hid (HU.out.below hd1)
    have HG1 := Lib.hid (HG.out.below hd1)
    have HC1 := Lib.hid (And.intro (cellK HC.out.1 hd1) (cellK HC.out.2 hd1))
    have c1 := HC1.out.2
    clear hd1
    generalize dmC J xs dr pu rg = z at *
    go_wp2
    go_ret2
    exact ⟨ret_iiL HE.out.1.symm HE.out.2.symm, HB1.out⟩
end Go.Proofs.YthbofhlfggkolaaDoor
