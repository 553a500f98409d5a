/-
  Contracts of chapter 12: potentials, and what regulators take away; the model's. Conditions: those that each theorem states.
-/
import Derived.Test.YthbofhlfggkolaaDoorOc
namespace Go.Proofs.YthbofhlfggkolaaDoor
open Go.RowKit
set_option linter.unusedVariables false
set_option linter.unusedSimpArgs false

/-- What PotentialsOf returns. -/
def poC (J : Int) (xs : List Aw) (dr pu : List Int) (rg : List Bool) : Int := if dmC J xs dr pu rg = 0 then (if ptOk J.toNat (edT xs (exF dr pu) rg xs.length) then 0 else 3) else dmC J xs dr pu rg
def poR (J : Int) (xs : List Aw) (dr pu : List Int) (rg : List Bool) : List Int := if dmC J xs dr pu rg = 0 then ptR J.toNat (edT xs (exF dr pu) rg xs.length) else []
theorem poR_len (J : Int) (xs : List Aw) (dr pu : List Int) (rg : List Bool) : (poR J xs dr pu rg).length ≤ J.toNat := by
  unfold poR
  split
  · exact ptR_len _ _
  · simp
theorem poR_nil {J : Int} {xs : List Aw} {dr pu : List Int} {rg : List Bool} (h : poC J xs dr pu rg ≠ 0) : poR J xs dr pu rg = [] := by
  unfold poC at h
  unfold poR
  by_cases h0 : dmC J xs dr pu rg = 0
  · rw [if_pos h0] at h ⊢
    cases h1 : ptOk J.toNat (edT xs (exF dr pu) rg xs.length)
    · unfold ptR; rw [h1]; rfl
    · rw [h1] at h; exact absurd rfl h
  · rw [if_neg h0]
theorem ret_vO {v : Value} {b b' : Int} (h : b = b') : Ending.returned (.tuple #[v, .int .i64 b]) = .returned (.tuple #[v, .int .i64 b']) := by rw [h]
theorem own_leO {w : World} {B B' : Nat} {v : Value} {xs : List Int} (h : OwnI w B v xs) (hb : B' ≤ B) : OwnI w B' v xs := ⟨h.1, h.2.imp id fun ⟨g, cap, cur, e, hg, r⟩ => ⟨g, cap, cur, e, Nat.le_trans hb hg, r⟩⟩
set_option maxHeartbeats 2000000 in
theorem sPotentialsOf_any (J : Int) (A : Option Addr) (cap : Nat) (xs : List Aw) (D : Value) (dr : List Int) (U : Value) (pu : List Int) (G : Option Addr) (gcap : Nat) (rg : List Bool) (w : World) (hr : AwR w A xs) (hs : ∀ a ∈ xs, a.s.size ≤ maxLen) (hl : xs.length ≤ 1048576) (hd : Row .i64 w D dr) (hdl : dr.length ≤ 1048576) (hu : Row .i64 w U pu) (hul : pu.length ≤ 1048576) (hg : BoR w G rg) (hgl : rg.length ≤ 1048576) :
    Calls Tryd.prog 16 #[.agg #[.int .i64 J, .slice A xs.length cap], D, U, .slice G rg.length gcap] w fun e w' => ∃ v, e = .returned (.tuple #[v, .int .i64 (poC J xs dr pu rg)]) ∧ OwnI w' w.heap.size v (poR J xs dr pu rg) ∧ Below w.heap.size w w' := by
  obtain ⟨D, dcap, rfl⟩ := hd.form
  obtain ⟨U, ucap, rfl⟩ := hu.form
  have HB0 := Lib.hid (below_box w (.cells #[.int .i64 J, .slice A xs.length cap] 43))
  have HR := Lib.hid (hr.below HB0.out)
  have HD := Lib.hid (hd.below HB0.out)
  have HU := Lib.hid (hu.below HB0.out)
  have HG := Lib.hid (hg.below HB0.out)
  have HC := Lib.hid (show (w.alloc (.cells #[.int .i64 J, .slice A xs.length cap] 43)).cell? ⟨w.heap.size, 0, none⟩ = some (.int .i64 J) ∧ (w.alloc (.cells #[.int .i64 J, .slice A xs.length cap] 43)).cell? ⟨w.heap.size, 1, none⟩ = some (.slice A xs.length cap) from ⟨by simp, by simp⟩)
  have HS := Lib.hid hs
  clear hr hd hu hg hs
  by_cases hc : dmC J xs dr pu rg = 0
  · have HDM := Lib.hid hc
    have HE := Lib.hid (show poR J xs dr pu rg = ptR J.toNat (edT xs (exF dr pu) rg xs.length) ∧ poC J xs dr pu rg = (if ptOk J.toNat (edT xs (exF dr pu) rg xs.length) then 0 else 3) by unfold poR poC; rw [if_pos hc, if_pos hc]; exact ⟨rfl, rfl⟩)
    go_enter Tryd.func16, Tryd.ntmps16
    go_wp2_with fail
    (with_reducible refine (l12Ask_any w.heap.size J A cap xs _ dr _ pu G gcap rg _ HC.out.1 HC.out.2 HR.out HS.out hl HD.out hdl HU.out hul hgl).mono ?_)
    rintro e w1 ⟨rfl, hd1⟩
    have HB1 := Lib.hid (HB0.out.trans (hd1.mono HB0.out.size))
    have HR1 := Lib.hid (HR.out.below hd1)
    have HD1 := Lib.hid (HD.out.below hd1)
    have HU1 := Lib.hid (HU.out.below hd1)
    have HG1 := Lib.hid (HG.out.below hd1)
    have HC1 := Lib.hid (And.intro (cellK HC.out.1 hd1) (cellK HC.out.2 hd1))
    clear hd1
    rw [hc]
    clear hc
    go_wp2_with fail
    (with_reducible refine (l12Fit_any w.heap.size J A cap xs _ dr _ pu G gcap rg w1 HC1.out.1 HC1.out.2 HR1.out HD1.out HU1.out HG1.out HDM.out).mono ?_)
    rintro e w2 ⟨u, rfl, ho2, hd2⟩
    have HB2 := Lib.hid (HB1.out.trans (hd2.mono HB1.out.size))
    have HO2 := Lib.hid (own_leO ho2 HB1.out.size)
    have HR2 := Lib.hid (HR1.out.below hd2)
    have HD2 := Lib.hid (HD1.out.below hd2)
    have HU2 := Lib.hid (HU1.out.below hd2)
    have HC2 := Lib.hid (And.intro (cellK HC1.out.1 hd2) (cellK HC1.out.2 hd2))
    clear ho2 hd2
    obtain ⟨A2, c2, rfl⟩ := OwnI.form HO2.out
    cases hp : ptOk J.toNat (edT xs (exF dr pu) rg xs.length)
    · have HN := Lib.hid (And.intro (show ptR J.toNat (edT xs (exF dr pu) rg xs.length) = [] by unfold ptR; rw [hp]; rfl) (show poC J xs dr pu rg = 3 by rw [HE.out.2, hp]; rfl))
      clear hp
      go_wp2
      go_ret2
      exact ⟨_, ret_vO HN.out.2.symm, by rw [HE.out.1, HN.out.1]; exact own_nilO _ _, HB2.out⟩
    · have HN := Lib.hid (show poC J xs dr pu rg = 0 by rw [HE.out.2, hp]; rfl)
      clear hp
      go_wp2
      go_ret2
      exact ⟨_, ret_vO HN.out.symm, by rw [HE.out.1]; exact HO2.out, HB2.out⟩
  · have HE := Lib.hid (show poR J xs dr pu rg = [] ∧ poC J xs dr pu rg = dmC J xs dr pu rg by unfold poR poC; rw [if_neg hc, if_neg hc]; exact ⟨rfl, rfl⟩)
    have hz1 : (dmC J xs dr pu rg != 0) = true := by simp [hc]
    have hz2 : (dmC J xs dr pu rg == 0) = false := by simp [hc]
    go_enter Tryd.func16, Tryd.ntmps16
    go_wp2_with fail
    (with_reducible refine (l12Ask_any w.heap.size J A cap xs _ dr _ pu G gcap rg _ HC.out.1 HC.out.2 HR.out HS.out hl HD.out hdl HU.out hul hgl).mono ?_)
    rintro e w1 ⟨rfl, hd1⟩
    have HB1 := Lib.hid (HB0.out.trans (hd1.mono HB0.out.size))
    have HR1 := Lib.hid (HR.out.below hd1)
    have HD1 := Lib.hid (HD.out.below hd1)
    have HU1 := Lib.hid (HU.out.below hd1)
    have HG1 := Lib.hid (HG.out.below hd1)
    have HC1 := Lib.hid (And.intro (cellK HC.out.1 hd1) (cellK HC.out.2 hd1))
    clear hd1
    generalize dmC J xs dr pu rg = z at *
    go_wp2
    go_ret2
    exact ⟨_, ret_vO HE.out.2.symm, by rw [HE.out.1]; exact own_nilO _ _, HB1.out⟩
end Go.Proofs.YthbofhlfggkolaaDoor
