/-
  Contracts of chapter 9: airways that become warmer; the model's and the program's. Conditions: those that each theorem states.
-/
import Derived.Test.YtoojndohddellabZg
namespace Go.Proofs.Ytoojndohddellab
open Go.RowKit
set_option linter.unusedVariables false
set_option linter.unusedSimpArgs false

theorem set_getD (l : List Int) (q j : Nat) (x : Int) : (l.set q x).getD j 0 = if q = j ∧ j < l.length then x else l.getD j 0 := by
  by_cases e : q = j
  · subst e
    by_cases h : q < l.length
    · rw [if_pos ⟨rfl, h⟩]; simp [List.getD, List.getElem?_set, h]
    · rw [if_neg (fun hh => h hh.2)]; simp [List.getD, List.getElem?_set, h]
  · rw [if_neg (fun hh => e hh.1)]; simp [List.getD, List.getElem?_set, e]
/-- The temperatures behind k of the airways. -/
def wmL (tp ai : List Int) (by_ : Int) : Nat → List Int
  | 0 => tp
  | k + 1 => (wmL tp ai by_ k).set (ai.getD k 0).toNat ((wmL tp ai by_ k).getD (ai.getD k 0).toNat 0 + by_)
theorem wmL_len (tp ai : List Int) (by_ : Int) : ∀ k, (wmL tp ai by_ k).length = tp.length
  | 0 => rfl
  | k + 1 => by rw [wmL, List.length_set, wmL_len]
theorem wmL_bd {tp ai : List Int} {by_ : Int} (ht : ∀ y ∈ tp, -300 ≤ y ∧ y ≤ 600) (hb : -900 ≤ by_ ∧ by_ ≤ 900) : ∀ k : Nat, ∀ j : Nat, -600 - 900 * (k : Int) ≤ (wmL tp ai by_ k).getD j 0 ∧ (wmL tp ai by_ k).getD j 0 ≤ 600 + 900 * (k : Int)
  | 0, j => by
    rw [wmL]
    by_cases hj : j < tp.length
    · have := ht _ (show tp.getD j 0 ∈ tp from at_mem hj)
      omega
    · rw [show tp.getD j 0 = 0 by simp [List.getD, hj]]; omega
  | k + 1, j => by
    have h1 := wmL_bd (ai := ai) ht hb k
    rw [wmL, set_getD]
    split
    · have := h1 (ai.getD k 0).toNat
      omega
    · have := h1 j
      omega
/-- What WarmAirways returns. -/
def wgC (J : Int) (xs : List Aw) (tp ai : List Int) (by_ : Int) : Int := if mineOk J xs then (if inB by_ (-900) 900 then (if flOk (-300) 600 xs.length tp && risR 0 ((xs.length : Int) - 1) ai then (if flOk (-300) 600 xs.length (wmL tp ai by_ ai.length) then 0 else 6) else 7) else 2) else 1
def wgR (J : Int) (xs : List Aw) (tp ai : List Int) (by_ : Int) : List Int := if wgC J xs tp ai by_ = 0 then wmL tp ai by_ ai.length else []
theorem wgR_len (J : Int) (xs : List Aw) (tp ai : List Int) (by_ : Int) (h : tp.length ≤ 1048576) : (wgR J xs tp ai by_).length ≤ 1048576 := by unfold wgR; split <;> simp [wmL_len, h]
theorem int_set (l : List Int) (j : Nat) (x : Int) : (intsV l).set j (.int .i64 x) = intsV (l.set j x) := by
  unfold intsV
  rw [← List.map_set]
set_option maxHeartbeats 4000000 in
set_option maxRecDepth 100000 in
theorem sWarmAirways_any (J : Int) (A : Option Addr) (cap : Nat) (xs : List Aw) (T : Value) (tp : List Int) (U : Value) (ai : List Int) (by_ : Int) (w : World) (hr : AwR w A xs) (hs : ∀ a ∈ xs, a.s.size ≤ maxLen) (hl : xs.length ≤ 1048576) (ht : Row .i64 w T tp) (htl : tp.length ≤ 1048576) (hu : Row .i64 w U ai) (hul : ai.length ≤ 1048576) :
    Calls Try.prog 19 #[.agg #[.int .i64 J, .slice A xs.length cap], T, U, .int .i64 by_] w fun e w' => ∃ u, e = .returned (.tuple #[u, .int .i64 (wgC J xs tp ai by_)]) ∧ OwnI w' w.heap.size u (wgR J xs tp ai by_) ∧ Below w.heap.size w w' := by
  obtain ⟨F, fcap, rfl⟩ := ht.form
  obtain ⟨G, gcap, rfl⟩ := hu.form
  have HB0 := Lib.hid (below_box w (.cells #[.int .i64 J, .slice A xs.length cap] 32))
  have HK := Lib.hid (show (w.alloc (.cells #[.int .i64 J, .slice A xs.length cap] 32)).cell? ⟨w.heap.size, 0, none⟩ = some (.int .i64 J) ∧ (w.alloc (.cells #[.int .i64 J, .slice A xs.length cap] 32)).cell? ⟨w.heap.size, 1, none⟩ = some (.slice A xs.length cap) ∧ AwR (w.alloc (.cells #[.int .i64 J, .slice A xs.length cap] 32)) A xs ∧ Row .i64 (w.alloc (.cells #[.int .i64 J, .slice A xs.length cap] 32)) (.slice F tp.length fcap) tp ∧ Row .i64 (w.alloc (.cells #[.int .i64 J, .slice A xs.length cap] 32)) (.slice G ai.length gcap) ai from ⟨by simp, by simp, hr.below HB0.out, ht.below HB0.out, hu.below HB0.out⟩)
  have HS := Lib.hid hs
  clear hr ht hu hs
  cases hok : mineOk J xs
  · have HE := Lib.hid (show wgC J xs tp ai by_ = 1 ∧ wgR J xs tp ai by_ = [] by simp [wgC, wgR, hok])
    go_enter Try.func19, Try.ntmps19
    go_wp2_with fail
    (with_reducible refine (l04Ok_any w.heap.size J A cap xs (w.alloc (.cells #[.int .i64 J, .slice A xs.length cap] 32)) HK.out.1 HK.out.2.1 HK.out.2.2.1 HS.out hl).mono ?_)
    rintro e w1 ⟨rfl, n, rfl⟩
    rw [hok]
    have HB1 := Lib.hid (show Below w.heap.size w ((w.alloc (.cells #[.int .i64 J, .slice A xs.length cap] 32)).drewN n) from below_drewN' HB0.out n)
    have HK1 := Lib.hid (show ((w.alloc (.cells #[.int .i64 J, .slice A xs.length cap] 32)).drewN n).cell? ⟨w.heap.size, 0, none⟩ = some (.int .i64 J) ∧ ((w.alloc (.cells #[.int .i64 J, .slice A xs.length cap] 32)).drewN n).cell? ⟨w.heap.size, 1, none⟩ = some (.slice A xs.length cap) ∧ AwR ((w.alloc (.cells #[.int .i64 J, .slice A xs.length cap] 32)).drewN n) A xs ∧ Row .i64 ((w.alloc (.cells #[.int .i64 J, .slice A xs.length cap] 32)).drewN n) (.slice F tp.length fcap) tp ∧ Row .i64 ((w.alloc (.cells #[.int .i64 J, .slice A xs.length cap] 32)).drewN n) (.slice G ai.length gcap) ai from HK.out)
    generalize (w.alloc (.cells #[.int .i64 J, .slice A xs.length cap] 32)).drewN n = W1 at *
    have c1 := HK1.out.2.1
    go_wp2
    go_ret2
    exact ⟨_, ret_vz HE.out.1.symm, by rw [HE.out.2]; exact own_nilz _ _, HB1.out⟩
  · have h24 := (mineOk_iff.1 hok).2.2
    cases hby : inB by_ (-900) 900
    · have HE := Lib.hid (show wgC J xs tp ai by_ = 2 ∧ wgR J xs tp ai by_ = [] by simp [wgC, wgR, hok, hby])
      go_enter Try.func19, Try.ntmps19
      go_wp2_with fail
      (with_reducible refine (l04Ok_any w.heap.size J A cap xs (w.alloc (.cells #[.int .i64 J, .slice A xs.length cap] 32)) HK.out.1 HK.out.2.1 HK.out.2.2.1 HS.out hl).mono ?_)
      rintro e w1 ⟨rfl, n, rfl⟩
      rw [hok]
      have HB1 := Lib.hid (show Below w.heap.size w ((w.alloc (.cells #[.int .i64 J, .slice A xs.length cap] 32)).drewN n) from below_drewN' HB0.out n)
      have HK1 := Lib.hid (show ((w.alloc (.cells #[.int .i64 J, .slice A xs.length cap] 32)).drewN n).cell? ⟨w.heap.size, 0, none⟩ = some (.int .i64 J) ∧ ((w.alloc (.cells #[.int .i64 J, .slice A xs.length cap] 32)).drewN n).cell? ⟨w.heap.size, 1, none⟩ = some (.slice A xs.length cap) ∧ AwR ((w.alloc (.cells #[.int .i64 J, .slice A xs.length cap] 32)).drewN n) A xs ∧ Row .i64 ((w.alloc (.cells #[.int .i64 J, .slice A xs.length cap] 32)).drewN n) (.slice F tp.length fcap) tp ∧ Row .i64 ((w.alloc (.cells #[.int .i64 J, .slice A xs.length cap] 32)).drewN n) (.slice G ai.length gcap) ai from HK.out)
      generalize (w.alloc (.cells #[.int .i64 J, .slice A xs.length cap] 32)).drewN n = W1 at *
      have c1 := HK1.out.2.1
      go_wp2_with (go_at_call 38; (with_reducible refine (l00In_any _ _ _ _).mono ?_); rintro e w' ⟨rfl, rfl⟩; rw [hby])
      go_ret2
      exact ⟨_, ret_vz HE.out.1.symm, by rw [HE.out.2]; exact own_nilz _ _, HB1.out⟩
    · have hbb := inB_iff.1 hby
      cases hft : flOk (-300) 600 xs.length tp
      · have HE := Lib.hid (show wgC J xs tp ai by_ = 7 ∧ wgR J xs tp ai by_ = [] by simp [wgC, wgR, hok, hby, hft])
        go_enter Try.func19, Try.ntmps19
        go_wp2_with fail
        (with_reducible refine (l04Ok_any w.heap.size J A cap xs (w.alloc (.cells #[.int .i64 J, .slice A xs.length cap] 32)) HK.out.1 HK.out.2.1 HK.out.2.2.1 HS.out hl).mono ?_)
        rintro e w1 ⟨rfl, n, rfl⟩
        rw [hok]
        have HB1 := Lib.hid (show Below w.heap.size w ((w.alloc (.cells #[.int .i64 J, .slice A xs.length cap] 32)).drewN n) from below_drewN' HB0.out n)
        have HK1 := Lib.hid (show ((w.alloc (.cells #[.int .i64 J, .slice A xs.length cap] 32)).drewN n).cell? ⟨w.heap.size, 0, none⟩ = some (.int .i64 J) ∧ ((w.alloc (.cells #[.int .i64 J, .slice A xs.length cap] 32)).drewN n).cell? ⟨w.heap.size, 1, none⟩ = some (.slice A xs.length cap) ∧ AwR ((w.alloc (.cells #[.int .i64 J, .slice A xs.length cap] 32)).drewN n) A xs ∧ Row .i64 ((w.alloc (.cells #[.int .i64 J, .slice A xs.length cap] 32)).drewN n) (.slice F tp.length fcap) tp ∧ Row .i64 ((w.alloc (.cells #[.int .i64 J, .slice A xs.length cap] 32)).drewN n) (.slice G ai.length gcap) ai from HK.out)
        generalize (w.alloc (.cells #[.int .i64 J, .slice A xs.length cap] 32)).drewN n = W1 at *
        have c1 := HK1.out.2.1
        go_wp2_with (first
          | (go_at_call 38; (with_reducible refine (l00In_any _ _ _ _).mono ?_); rintro e w' ⟨rfl, rfl⟩; rw [hby])
          | (go_at_call 39; (with_reducible refine (l09Temps_any w.heap.size xs.length cap A _ tp W1 HK1.out.2.1 (RowW.of_row HK1.out.2.2.2.1) (by omega) hl).mono ?_); rintro e w' ⟨rfl, rfl⟩; rw [hft]))
        go_ret2
        exact ⟨_, ret_vz HE.out.1.symm, by rw [HE.out.2]; exact own_nilz _ _, HB1.out⟩
      · cases hri : risR 0 ((xs.length : Int) - 1) ai
        · have HE := Lib.hid (show wgC J xs tp ai by_ = 7 ∧ wgR J xs tp ai by_ = [] by simp [wgC, wgR, hok, hby, hft, hri])
          go_enter Try.func19, Try.ntmps19
          go_wp2_with fail
          (with_reducible refine (l04Ok_any w.heap.size J A cap xs (w.alloc (.cells #[.int .i64 J, .slice A xs.length cap] 32)) HK.out.1 HK.out.2.1 HK.out.2.2.1 HS.out hl).mono ?_)
          rintro e w1 ⟨rfl, n, rfl⟩
          rw [hok]
          have HB1 := Lib.hid (show Below w.heap.size w ((w.alloc (.cells #[.int .i64 J, .slice A xs.length cap] 32)).drewN n) from below_drewN' HB0.out n)
          have HK1 := Lib.hid (show ((w.alloc (.cells #[.int .i64 J, .slice A xs.length cap] 32)).drewN n).cell? ⟨w.heap.size, 0, none⟩ = some (.int .i64 J) ∧ ((w.alloc (.cells #[.int .i64 J, .slice A xs.length cap] 32)).drewN n).cell? ⟨w.heap.size, 1, none⟩ = some (.slice A xs.length cap) ∧ AwR ((w.alloc (.cells #[.int .i64 J, .slice A xs.length cap] 32)).drewN n) A xs ∧ Row .i64 ((w.alloc (.cells #[.int .i64 J, .slice A xs.length cap] 32)).drewN n) (.slice F tp.length fcap) tp ∧ Row .i64 ((w.alloc (.cells #[.int .i64 J, .slice A xs.length cap] 32)).drewN n) (.slice G ai.length gcap) ai from HK.out)
          generalize (w.alloc (.cells #[.int .i64 J, .slice A xs.length cap] 32)).drewN n = W1 at *
          have c1 := HK1.out.2.1
          go_wp2_with (first
            | (go_at_call 38; (with_reducible refine (l00In_any _ _ _ _).mono ?_); rintro e w' ⟨rfl, rfl⟩; rw [hby])
            | (go_at_call 39; (with_reducible refine (l09Temps_any w.heap.size xs.length cap A _ tp W1 HK1.out.2.1 (RowW.of_row HK1.out.2.2.2.1) (by omega) hl).mono ?_); rintro e w' ⟨rfl, rfl⟩; rw [hft]))
          go_wp2_with fail
          (with_reducible refine (l00Rises_any _ ai _ _ W1 (RowW.of_row HK1.out.2.2.2.2) hul).mono ?_)
          rintro e w2 ⟨rfl, n2, rfl⟩
          rw [hri]
          have HB2 := Lib.hid (show Below w.heap.size w (W1.drewN n2) from below_drewN' HB1.out n2)
          have HK2 := Lib.hid (show (W1.drewN n2).cell? ⟨w.heap.size, 0, none⟩ = some (.int .i64 J) ∧ (W1.drewN n2).cell? ⟨w.heap.size, 1, none⟩ = some (.slice A xs.length cap) ∧ AwR (W1.drewN n2) A xs ∧ Row .i64 (W1.drewN n2) (.slice F tp.length fcap) tp ∧ Row .i64 (W1.drewN n2) (.slice G ai.length gcap) ai from HK1.out)
          generalize W1.drewN n2 = W2 at *
          go_wp2
          go_ret2
          exact ⟨_, ret_vz HE.out.1.symm, by rw [HE.out.2]; exact own_nilz _ _, HB2.out⟩
        · have HRI := Lib.hid (risR_iff.1 hri).1
          have htp1 : tp.length ≤ xs.length := Nat.le_of_eq (flOk_iff.1 hft).1
          have htp2 : xs.length ≤ tp.length := Nat.le_of_eq (flOk_iff.1 hft).1.symm
          have HBD := Lib.hid (fun k j => wmL_bd (ai := ai) (flOk_iff.1 hft).2 hbb k j)
          have HE := Lib.hid (show wgC J xs tp ai by_ = (if flOk (-300) 600 xs.length (wmL tp ai by_ ai.length) then 0 else 6) by simp [wgC, hok, hby, hft, hri])
          go_enter Try.func19, Try.ntmps19
          go_wp2_with fail
          (with_reducible refine (l04Ok_any w.heap.size J A cap xs (w.alloc (.cells #[.int .i64 J, .slice A xs.length cap] 32)) HK.out.1 HK.out.2.1 HK.out.2.2.1 HS.out hl).mono ?_)
          rintro e w1 ⟨rfl, n, rfl⟩
          rw [hok]
          have HB1 := Lib.hid (show Below w.heap.size w ((w.alloc (.cells #[.int .i64 J, .slice A xs.length cap] 32)).drewN n) from below_drewN' HB0.out n)
          have HK1 := Lib.hid (show ((w.alloc (.cells #[.int .i64 J, .slice A xs.length cap] 32)).drewN n).cell? ⟨w.heap.size, 0, none⟩ = some (.int .i64 J) ∧ ((w.alloc (.cells #[.int .i64 J, .slice A xs.length cap] 32)).drewN n).cell? ⟨w.heap.size, 1, none⟩ = some (.slice A xs.length cap) ∧ AwR ((w.alloc (.cells #[.int .i64 J, .slice A xs.length cap] 32)).drewN n) A xs ∧ Row .i64 ((w.alloc (.cells #[.int .i64 J, .slice A xs.length cap] 32)).drewN n) (.slice F tp.length fcap) tp ∧ Row .i64 ((w.alloc (.cells #[.int .i64 J, .slice A xs.length cap] 32)).drewN n) (.slice G ai.length gcap) ai from HK.out)
          generalize (w.alloc (.cells #[.int .i64 J, .slice A xs.length cap] 32)).drewN n = W1 at *
          have c1 := HK1.out.2.1
          go_wp2_with (first
            | (go_at_call 38; (with_reducible refine (l00In_any _ _ _ _).mono ?_); rintro e w' ⟨rfl, rfl⟩; rw [hby])
            | (go_at_call 39; (with_reducible refine (l09Temps_any w.heap.size xs.length cap A _ tp W1 HK1.out.2.1 (RowW.of_row HK1.out.2.2.2.1) (by omega) hl).mono ?_); rintro e w' ⟨rfl, rfl⟩; rw [hft]))
          go_wp2_with fail
          (with_reducible refine (l00Rises_any _ ai _ _ W1 (RowW.of_row HK1.out.2.2.2.2) hul).mono ?_)
          rintro e w2 ⟨rfl, n2, rfl⟩
          rw [hri]
          have HB2 := Lib.hid (show Below w.heap.size w (W1.drewN n2) from below_drewN' HB1.out n2)
          have HK2 := Lib.hid (show (W1.drewN n2).cell? ⟨w.heap.size, 0, none⟩ = some (.int .i64 J) ∧ (W1.drewN n2).cell? ⟨w.heap.size, 1, none⟩ = some (.slice A xs.length cap) ∧ AwR (W1.drewN n2) A xs ∧ Row .i64 (W1.drewN n2) (.slice F tp.length fcap) tp ∧ Row .i64 (W1.drewN n2) (.slice G ai.length gcap) ai from HK1.out)
          generalize W1.drewN n2 = W2 at *
          go_wp2_with fail
          (with_reducible refine (l00Own_any _ tp W2 HK2.out.2.2.2.1 htl).mono ?_)
          rintro e wc ⟨u, rfl, ho, hd⟩
          obtain ⟨ua, ucap, rfl⟩ := ho.form
          have HOC := Lib.hid ho
          have HBC := Lib.hid (show Below W2.heap.size W2 wc from hd)
          clear ho hd c1
          have hzc : W2.heap.size ≤ wc.heap.size := HBC.out.size
          go_wp2
          go_loopw [11] (fun i wr => ∃ k : Nat, k ≤ ai.length ∧ i = .int .i64 k ∧ wr.ownsRow W2.heap.size 2 1 (.slice ua tp.length ucap) tp.length (intsV (wmL tp ai by_ k)) ∧ Below W2.heap.size W2 wr) (fun i wr => ai.length - (intOf i).toNat)
          case atStart => exact ⟨0, by omega, rfl, HOC.out, HBC.out⟩
          case round =>
            obtain ⟨k, hk, rfl, hown, hbel⟩ := hrel
            by_cases hlt : k < ai.length
            · obtain ⟨b, off, rfl, -, hc⟩ := Row.cell (HK2.out.2.2.2.2.below hbel) hlt
              have hr0 := HRI.out _ (at_mem hlt)
              have HW := Lib.hid (show wmL tp ai by_ (k + 1) = (wmL tp ai by_ k).set (ai.getD k 0).toNat ((wmL tp ai by_ k).getD (ai.getD k 0).toNat 0 + by_) from rfl)
              obtain ⟨z, hz⟩ : ∃ z : Nat, ai.getD k 0 = z := ⟨(ai.getD k 0).toNat, by omega⟩
              rw [hz] at hc hr0 HW
              rw [Int.toNat_natCast] at HW
              have hzl : z < tp.length := by omega
              have hzI : (z : Int) < (tp.length : Int) := by omega
              have hkI : (k : Int) < (ai.length : Int) := by omega
              obtain ⟨bd1, bd2⟩ := HBD.out k z
              have hll := wmL_len tp ai by_ k
              have hv0 : (intsV (wmL tp ai by_ k))[z]? = some (.int .i64 ((wmL tp ai by_ k).getD z 0)) := by
                have hz2 : z < (wmL tp ai by_ k).length := by rw [hll]; exact hzl
                simp [intsV, List.getD, hz2]
              obtain ⟨g, rfl⟩ : ∃ g, ua = some ⟨g, 0, none⟩ := by
                rcases hown.2 with ⟨-, h0⟩ | ⟨g, cap', cur, e1, -⟩
                · omega
                · injection e1 with e1 e2 e3; exact ⟨g, e1⟩
              have dz : wr.cell? ⟨g, z, none⟩ = some (.int .i64 ((wmL tp ai by_ k).getD z 0)) := by rw [hown.cellAt z (by omega), hv0]
              have fz := hown.frozenAt z
              have hgb : W2.heap.size ≤ g := (hown.lt g rfl).1
              have HST := Lib.hid (fun x => (hown.stored z (.int .i64 x)).1)
              have HBL := Lib.hid hbel
              clear hown hbel hll hv0 hz hr0
              generalize (wmL tp ai by_ k).getD z 0 = y at *
              have hwy : IntKind.i64.wrap (y + by_) = y + by_ := IntWalk.i64_in _ (by omega)
              go_wp2
              go_roundw
              case rel => exact ⟨k + 1, by omega, by go_num, by
                have h := HST.out (y + by_)
                rw [int_set] at h
                rw [HW.out]
                exact h, HBL.out.setCell (by show W2.heap.size ≤ g; exact hgb) _⟩
              case measure => simp [intOf]; omega
            · obtain rfl : k = ai.length := by omega
              have hll := wmL_len tp ai by_ ai.length
              have HOW := Lib.hid (show OwnI wr W2.heap.size _ (wmL tp ai by_ ai.length) by unfold OwnI; rw [hll]; exact hown)
              have HBL := Lib.hid hbel
              have HLL := Lib.hid hll
              clear hown hbel hll
              have m0 := cell_keep HK2.out.1 HBL.out
              have m1 := cell_keep HK2.out.2.1 HBL.out
              generalize hL : wmL tp ai by_ ai.length = L at *
              have hlen1 : L.length ≤ 1048576 := by have := HLL.out; omega
              cases hf2 : flOk (-300) 600 xs.length L
              · rw [hf2] at HE
                go_wp2_with (go_at_call 39; (with_reducible refine (l09Temps_any w.heap.size xs.length cap A _ L wr m1 (RowW.of_ownI HOW.out) (by omega) hl).mono ?_); rintro e w' ⟨rfl, rfl⟩; rw [hf2])
                go_ret2
                exact ⟨_, ret_vz (by rw [HE.out]; rfl), by rw [show wgR J xs tp ai by_ = [] by unfold wgR; rw [HE.out]; rfl]; exact own_nilz _ _, HB2.out.trans (HBL.out.mono HB2.out.size)⟩
              · rw [hf2] at HE
                go_wp2_with (go_at_call 39; (with_reducible refine (l09Temps_any w.heap.size xs.length cap A _ L wr m1 (RowW.of_ownI HOW.out) (by omega) hl).mono ?_); rintro e w' ⟨rfl, rfl⟩; rw [hf2])
                go_ret2
                exact ⟨_, ret_vz (by rw [HE.out]; rfl), by rw [show wgR J xs tp ai by_ = L by unfold wgR; rw [HE.out, hL]; rfl]; exact own_lez HOW.out HB2.out.size, HB2.out.trans (HBL.out.mono HB2.out.size)⟩
set_option maxHeartbeats 4000000 in
set_option maxRecDepth 100000 in
theorem iWarmAirways_any (J : Int) (A : Option Addr) (cap : Nat) (xs : List Aw) (T : Value) (tp : List Int) (U : Value) (ai : List Int) (by_ : Int) (w : World) (hr : AwR w A xs) (hs : ∀ a ∈ xs, a.s.size ≤ maxLen) (hl : xs.length ≤ 1048576) (ht : Row .i64 w T tp) (htl : tp.length ≤ 1048576) (hu : Row .i64 w U ai) (hul : ai.length ≤ 1048576) :
    Calls Try.prog 20 #[.agg #[.int .i64 J, .slice A xs.length cap], T, U, .int .i64 by_] w fun e w' => ∃ u, e = .returned (.tuple #[u, .int .i64 (wgC J xs tp ai by_)]) ∧ OwnI w' w.heap.size u (wgR J xs tp ai by_) ∧ Below w.heap.size w w' := by
  obtain ⟨F, fcap, rfl⟩ := ht.form
  obtain ⟨G, gcap, rfl⟩ := hu.form
  have HB0 := Lib.hid (below_box w (.cells #[.int .i64 J, .slice A xs.length cap] 32))
  have HK := Lib.hid (show (w.alloc (.cells #[.int .i64 J, .slice A xs.length cap] 32)).cell? ⟨w.heap.size, 0, none⟩ = some (.int .i64 J) ∧ (w.alloc (.cells #[.int .i64 J, .slice A xs.length cap] 32)).cell? ⟨w.heap.size, 1, none⟩ = some (.slice A xs.length cap) ∧ AwR (w.alloc (.cells #[.int .i64 J, .slice A xs.length cap] 32)) A xs ∧ Row .i64 (w.alloc (.cells #[.int .i64 J, .slice A xs.length cap] 32)) (.slice F tp.length fcap) tp ∧ Row .i64 (w.alloc (.cells #[.int .i64 J, .slice A xs.length cap] 32)) (.slice G ai.length gcap) ai from ⟨by simp, by simp, hr.below HB0.out, ht.below HB0.out, hu.below HB0.out⟩)
  have HS := Lib.hid hs
  clear hr ht hu hs
  cases hok : mineOk J xs
  · have HE := Lib.hid (show wgC J xs tp ai by_ = 1 ∧ wgR J xs tp ai by_ = [] by simp [wgC, wgR, hok])
    go_enter Try.func20, Try.ntmps20
    have hc0 := HK.out.1
    have hc1 := HK.out.2.1
    go_wp2_with fail
    (with_reducible refine (iValidMine_any J A cap xs _ HK.out.2.2.1 HS.out hl).mono ?_)
    rintro e W1 ⟨rfl, hd⟩
    rw [hok]
    have HB1 := Lib.hid (HB0.out.trans (hd.mono HB0.out.size))
    have HK1 := Lib.hid (show W1.cell? ⟨w.heap.size, 0, none⟩ = some (.int .i64 J) ∧ W1.cell? ⟨w.heap.size, 1, none⟩ = some (.slice A xs.length cap) ∧ AwR W1 A xs ∧ Row .i64 W1 (.slice F tp.length fcap) tp ∧ Row .i64 W1 (.slice G ai.length gcap) ai from ⟨cell_keep HK.out.1 hd, cell_keep HK.out.2.1 hd, HK.out.2.2.1.below hd, HK.out.2.2.2.1.below hd, HK.out.2.2.2.2.below hd⟩)
    clear hd hc0 hc1
    have c0 := HK1.out.1
    have c1 := HK1.out.2.1
    go_wp2
    go_ret2
    exact ⟨_, ret_vz HE.out.1.symm, by rw [HE.out.2]; exact own_nilz _ _, HB1.out⟩
  · have h24 := (mineOk_iff.1 hok).2.2
    cases hby : inB by_ (-900) 900
    · have HE := Lib.hid (show wgC J xs tp ai by_ = 2 ∧ wgR J xs tp ai by_ = [] by simp [wgC, wgR, hok, hby])
      go_enter Try.func20, Try.ntmps20
      have hc0 := HK.out.1
      have hc1 := HK.out.2.1
      go_wp2_with fail
      (with_reducible refine (iValidMine_any J A cap xs _ HK.out.2.2.1 HS.out hl).mono ?_)
      rintro e W1 ⟨rfl, hd⟩
      rw [hok]
      have HB1 := Lib.hid (HB0.out.trans (hd.mono HB0.out.size))
      have HK1 := Lib.hid (show W1.cell? ⟨w.heap.size, 0, none⟩ = some (.int .i64 J) ∧ W1.cell? ⟨w.heap.size, 1, none⟩ = some (.slice A xs.length cap) ∧ AwR W1 A xs ∧ Row .i64 W1 (.slice F tp.length fcap) tp ∧ Row .i64 W1 (.slice G ai.length gcap) ai from ⟨cell_keep HK.out.1 hd, cell_keep HK.out.2.1 hd, HK.out.2.2.1.below hd, HK.out.2.2.2.1.below hd, HK.out.2.2.2.2.below hd⟩)
      clear hd hc0 hc1
      have c0 := HK1.out.1
      have c1 := HK1.out.2.1
      go_wp2_with fail
      (with_reducible refine (within64_one _ _ by_ W1 _ _ rfl).mono ?_)
      rintro e w' ⟨rfl, rfl⟩
      rw [hby]
      have hd := below_box W1 (.cells #[.int .i64 by_] 2)
      generalize W1.alloc (.cells #[.int .i64 by_] 2) = W2 at *
      have HB2 := Lib.hid (HB1.out.trans (hd.mono HB1.out.size))
      have HK2 := Lib.hid (show W2.cell? ⟨w.heap.size, 0, none⟩ = some (.int .i64 J) ∧ W2.cell? ⟨w.heap.size, 1, none⟩ = some (.slice A xs.length cap) ∧ AwR W2 A xs ∧ Row .i64 W2 (.slice F tp.length fcap) tp ∧ Row .i64 W2 (.slice G ai.length gcap) ai from ⟨cell_keep HK1.out.1 hd, cell_keep HK1.out.2.1 hd, HK1.out.2.2.1.below hd, HK1.out.2.2.2.1.below hd, HK1.out.2.2.2.2.below hd⟩)
      clear hd c0 c1
      have c0 := HK2.out.1
      have c1 := HK2.out.2.1
      go_wp2
      go_ret2
      exact ⟨_, ret_vz HE.out.1.symm, by rw [HE.out.2]; exact own_nilz _ _, HB2.out⟩
    · have hbb := inB_iff.1 hby
      cases hft : flOk (-300) 600 xs.length tp
      · have HE := Lib.hid (show wgC J xs tp ai by_ = 7 ∧ wgR J xs tp ai by_ = [] by simp [wgC, wgR, hok, hby, hft])
        go_enter Try.func20, Try.ntmps20
        have hc0 := HK.out.1
        have hc1 := HK.out.2.1
        go_wp2_with fail
        (with_reducible refine (iValidMine_any J A cap xs _ HK.out.2.2.1 HS.out hl).mono ?_)
        rintro e W1 ⟨rfl, hd⟩
        rw [hok]
        have HB1 := Lib.hid (HB0.out.trans (hd.mono HB0.out.size))
        have HK1 := Lib.hid (show W1.cell? ⟨w.heap.size, 0, none⟩ = some (.int .i64 J) ∧ W1.cell? ⟨w.heap.size, 1, none⟩ = some (.slice A xs.length cap) ∧ AwR W1 A xs ∧ Row .i64 W1 (.slice F tp.length fcap) tp ∧ Row .i64 W1 (.slice G ai.length gcap) ai from ⟨cell_keep HK.out.1 hd, cell_keep HK.out.2.1 hd, HK.out.2.2.1.below hd, HK.out.2.2.2.1.below hd, HK.out.2.2.2.2.below hd⟩)
        clear hd hc0 hc1
        have c0 := HK1.out.1
        have c1 := HK1.out.2.1
        go_wp2_with fail
        (with_reducible refine (within64_one _ _ by_ W1 _ _ rfl).mono ?_)
        rintro e w' ⟨rfl, rfl⟩
        rw [hby]
        have hd := below_box W1 (.cells #[.int .i64 by_] 2)
        generalize W1.alloc (.cells #[.int .i64 by_] 2) = W2 at *
        have HB2 := Lib.hid (HB1.out.trans (hd.mono HB1.out.size))
        have HK2 := Lib.hid (show W2.cell? ⟨w.heap.size, 0, none⟩ = some (.int .i64 J) ∧ W2.cell? ⟨w.heap.size, 1, none⟩ = some (.slice A xs.length cap) ∧ AwR W2 A xs ∧ Row .i64 W2 (.slice F tp.length fcap) tp ∧ Row .i64 W2 (.slice G ai.length gcap) ai from ⟨cell_keep HK1.out.1 hd, cell_keep HK1.out.2.1 hd, HK1.out.2.2.1.below hd, HK1.out.2.2.2.1.below hd, HK1.out.2.2.2.2.below hd⟩)
        clear hd c0 c1
        have c0 := HK2.out.1
        have c1 := HK2.out.2.1
        go_wp2_with fail
        (with_reducible refine (areTemperatures_any J A xs.length cap _ tp W2 HK2.out.2.2.2.1 (by omega) hl).mono ?_)
        rintro e W3 ⟨rfl, hd⟩
        rw [hft]
        have HB3 := Lib.hid (HB2.out.trans (hd.mono HB2.out.size))
        have HK3 := Lib.hid (show W3.cell? ⟨w.heap.size, 0, none⟩ = some (.int .i64 J) ∧ W3.cell? ⟨w.heap.size, 1, none⟩ = some (.slice A xs.length cap) ∧ AwR W3 A xs ∧ Row .i64 W3 (.slice F tp.length fcap) tp ∧ Row .i64 W3 (.slice G ai.length gcap) ai from ⟨cell_keep HK2.out.1 hd, cell_keep HK2.out.2.1 hd, HK2.out.2.2.1.below hd, HK2.out.2.2.2.1.below hd, HK2.out.2.2.2.2.below hd⟩)
        clear hd c0 c1
        have c0 := HK3.out.1
        have c1 := HK3.out.2.1
        go_wp2
        go_ret2
        exact ⟨_, ret_vz HE.out.1.symm, by rw [HE.out.2]; exact own_nilz _ _, HB3.out⟩
      · cases hri : risR 0 ((xs.length : Int) - 1) ai
        · have HE := Lib.hid (show wgC J xs tp ai by_ = 7 ∧ wgR J xs tp ai by_ = [] by simp [wgC, wgR, hok, hby, hft, hri])
          go_enter Try.func20, Try.ntmps20
          have hc0 := HK.out.1
          have hc1 := HK.out.2.1
          go_wp2_with fail
          (with_reducible refine (iValidMine_any J A cap xs _ HK.out.2.2.1 HS.out hl).mono ?_)
          rintro e W1 ⟨rfl, hd⟩
          rw [hok]
          have HB1 := Lib.hid (HB0.out.trans (hd.mono HB0.out.size))
          have HK1 := Lib.hid (show W1.cell? ⟨w.heap.size, 0, none⟩ = some (.int .i64 J) ∧ W1.cell? ⟨w.heap.size, 1, none⟩ = some (.slice A xs.length cap) ∧ AwR W1 A xs ∧ Row .i64 W1 (.slice F tp.length fcap) tp ∧ Row .i64 W1 (.slice G ai.length gcap) ai from ⟨cell_keep HK.out.1 hd, cell_keep HK.out.2.1 hd, HK.out.2.2.1.below hd, HK.out.2.2.2.1.below hd, HK.out.2.2.2.2.below hd⟩)
          clear hd hc0 hc1
          have c0 := HK1.out.1
          have c1 := HK1.out.2.1
          go_wp2_with fail
          (with_reducible refine (within64_one _ _ by_ W1 _ _ rfl).mono ?_)
          rintro e w' ⟨rfl, rfl⟩
          rw [hby]
          have hd := below_box W1 (.cells #[.int .i64 by_] 2)
          generalize W1.alloc (.cells #[.int .i64 by_] 2) = W2 at *
          have HB2 := Lib.hid (HB1.out.trans (hd.mono HB1.out.size))
          have HK2 := Lib.hid (show W2.cell? ⟨w.heap.size, 0, none⟩ = some (.int .i64 J) ∧ W2.cell? ⟨w.heap.size, 1, none⟩ = some (.slice A xs.length cap) ∧ AwR W2 A xs ∧ Row .i64 W2 (.slice F tp.length fcap) tp ∧ Row .i64 W2 (.slice G ai.length gcap) ai from ⟨cell_keep HK1.out.1 hd, cell_keep HK1.out.2.1 hd, HK1.out.2.2.1.below hd, HK1.out.2.2.2.1.below hd, HK1.out.2.2.2.2.below hd⟩)
          clear hd c0 c1
          have c0 := HK2.out.1
          have c1 := HK2.out.2.1
          go_wp2_with fail
          (with_reducible refine (areTemperatures_any J A xs.length cap _ tp W2 HK2.out.2.2.2.1 (by omega) hl).mono ?_)
          rintro e W3 ⟨rfl, hd⟩
          rw [hft]
          have HB3 := Lib.hid (HB2.out.trans (hd.mono HB2.out.size))
          have HK3 := Lib.hid (show W3.cell? ⟨w.heap.size, 0, none⟩ = some (.int .i64 J) ∧ W3.cell? ⟨w.heap.size, 1, none⟩ = some (.slice A xs.length cap) ∧ AwR W3 A xs ∧ Row .i64 W3 (.slice F tp.length fcap) tp ∧ Row .i64 W3 (.slice G ai.length gcap) ai from ⟨cell_keep HK2.out.1 hd, cell_keep HK2.out.2.1 hd, HK2.out.2.2.1.below hd, HK2.out.2.2.2.1.below hd, HK2.out.2.2.2.2.below hd⟩)
          clear hd c0 c1
          have c0 := HK3.out.1
          have c1 := HK3.out.2.1
          go_wp2_with fail
          (with_reducible refine (areIndices_any J A xs.length cap _ ai W3 HK3.out.2.2.2.2 hul hl).mono ?_)
          rintro e W4 ⟨rfl, hd⟩
          rw [hri]
          have HB4 := Lib.hid (HB3.out.trans (hd.mono HB3.out.size))
          have HK4 := Lib.hid (show W4.cell? ⟨w.heap.size, 0, none⟩ = some (.int .i64 J) ∧ W4.cell? ⟨w.heap.size, 1, none⟩ = some (.slice A xs.length cap) ∧ AwR W4 A xs ∧ Row .i64 W4 (.slice F tp.length fcap) tp ∧ Row .i64 W4 (.slice G ai.length gcap) ai from ⟨cell_keep HK3.out.1 hd, cell_keep HK3.out.2.1 hd, HK3.out.2.2.1.below hd, HK3.out.2.2.2.1.below hd, HK3.out.2.2.2.2.below hd⟩)
          clear hd c0 c1
          have c0 := HK4.out.1
          have c1 := HK4.out.2.1
          go_wp2
          go_ret2
          exact ⟨_, ret_vz HE.out.1.symm, by rw [HE.out.2]; exact own_nilz _ _, HB4.out⟩
        · have HRI := Lib.hid (risR_iff.1 hri).1
          have htp1 : tp.length ≤ xs.length := Nat.le_of_eq (flOk_iff.1 hft).1
          have htp2 : xs.length ≤ tp.length := Nat.le_of_eq (flOk_iff.1 hft).1.symm
          have HBD := Lib.hid (fun k j => wmL_bd (ai := ai) (flOk_iff.1 hft).2 hbb k j)
          have HE := Lib.hid (show wgC J xs tp ai by_ = (if flOk (-300) 600 xs.length (wmL tp ai by_ ai.length) then 0 else 6) by simp [wgC, hok, hby, hft, hri])
          go_enter Try.func20, Try.ntmps20
          have hc0 := HK.out.1
          have hc1 := HK.out.2.1
          go_wp2_with fail
          (with_reducible refine (iValidMine_any J A cap xs _ HK.out.2.2.1 HS.out hl).mono ?_)
          rintro e W1 ⟨rfl, hd⟩
          rw [hok]
          have HB1 := Lib.hid (HB0.out.trans (hd.mono HB0.out.size))
          have HK1 := Lib.hid (show W1.cell? ⟨w.heap.size, 0, none⟩ = some (.int .i64 J) ∧ W1.cell? ⟨w.heap.size, 1, none⟩ = some (.slice A xs.length cap) ∧ AwR W1 A xs ∧ Row .i64 W1 (.slice F tp.length fcap) tp ∧ Row .i64 W1 (.slice G ai.length gcap) ai from ⟨cell_keep HK.out.1 hd, cell_keep HK.out.2.1 hd, HK.out.2.2.1.below hd, HK.out.2.2.2.1.below hd, HK.out.2.2.2.2.below hd⟩)
          clear hd hc0 hc1
          have c0 := HK1.out.1
          have c1 := HK1.out.2.1
          go_wp2_with fail
          (with_reducible refine (within64_one _ _ by_ W1 _ _ rfl).mono ?_)
          rintro e w' ⟨rfl, rfl⟩
          rw [hby]
          have hd := below_box W1 (.cells #[.int .i64 by_] 2)
          generalize W1.alloc (.cells #[.int .i64 by_] 2) = W2 at *
          have HB2 := Lib.hid (HB1.out.trans (hd.mono HB1.out.size))
          have HK2 := Lib.hid (show W2.cell? ⟨w.heap.size, 0, none⟩ = some (.int .i64 J) ∧ W2.cell? ⟨w.heap.size, 1, none⟩ = some (.slice A xs.length cap) ∧ AwR W2 A xs ∧ Row .i64 W2 (.slice F tp.length fcap) tp ∧ Row .i64 W2 (.slice G ai.length gcap) ai from ⟨cell_keep HK1.out.1 hd, cell_keep HK1.out.2.1 hd, HK1.out.2.2.1.below hd, HK1.out.2.2.2.1.below hd, HK1.out.2.2.2.2.below hd⟩)
          clear hd c0 c1
          have c0 := HK2.out.1
          have c1 := HK2.out.2.1
          go_wp2_with fail
          (with_reducible refine (areTemperatures_any J A xs.length cap _ tp W2 HK2.out.2.2.2.1 (by omega) hl).mono ?_)
          rintro e W3 ⟨rfl, hd⟩
          rw [hft]
          have HB3 := Lib.hid (HB2.out.trans (hd.mono HB2.out.size))
          have HK3 := Lib.hid (show W3.cell? ⟨w.heap.size, 0, none⟩ = some (.int .i64 J) ∧ W3.cell? ⟨w.heap.size, 1, none⟩ = some (.slice A xs.length cap) ∧ AwR W3 A xs ∧ Row .i64 W3 (.slice F tp.length fcap) tp ∧ Row .i64 W3 (.slice G ai.length gcap) ai from ⟨cell_keep HK2.out.1 hd, cell_keep HK2.out.2.1 hd, HK2.out.2.2.1.below hd, HK2.out.2.2.2.1.below hd, HK2.out.2.2.2.2.below hd⟩)
          clear hd c0 c1
          have c0 := HK3.out.1
          have c1 := HK3.out.2.1
          go_wp2_with fail
          (with_reducible refine (areIndices_any J A xs.length cap _ ai W3 HK3.out.2.2.2.2 hul hl).mono ?_)
          rintro e W4 ⟨rfl, hd⟩
          rw [hri]
          have HB4 := Lib.hid (HB3.out.trans (hd.mono HB3.out.size))
          have HK4 := Lib.hid (show W4.cell? ⟨w.heap.size, 0, none⟩ = some (.int .i64 J) ∧ W4.cell? ⟨w.heap.size, 1, none⟩ = some (.slice A xs.length cap) ∧ AwR W4 A xs ∧ Row .i64 W4 (.slice F tp.length fcap) tp ∧ Row .i64 W4 (.slice G ai.length gcap) ai from ⟨cell_keep HK3.out.1 hd, cell_keep HK3.out.2.1 hd, HK3.out.2.2.1.below hd, HK3.out.2.2.2.1.below hd, HK3.out.2.2.2.2.below hd⟩)
          clear hd c0 c1
          have c0 := HK4.out.1
          have c1 := HK4.out.2.1
          go_wp2_with fail
          (with_reducible refine (clone_any _ tp W4 HK4.out.2.2.2.1 htl).mono ?_)
          rintro e wc ⟨u, rfl, ho, hd⟩
          obtain ⟨ua, ucap, rfl⟩ := ho.form
          have HOC := Lib.hid ho
          have HBC := Lib.hid (show Below W4.heap.size W4 wc from hd)
          clear ho hd c1 c0
          have hzc : W4.heap.size ≤ wc.heap.size := HBC.out.size
          go_wp2
          go_loopw [34] (fun i wr => ∃ k : Nat, k ≤ ai.length ∧ i = .int .i64 k ∧ wr.ownsRow W4.heap.size 2 1 (.slice ua tp.length ucap) tp.length (intsV (wmL tp ai by_ k)) ∧ Below W4.heap.size W4 wr) (fun i wr => ai.length - (intOf i).toNat)
          case atStart => exact ⟨0, by omega, rfl, HOC.out, HBC.out⟩
          case round =>
            obtain ⟨k, hk, rfl, hown, hbel⟩ := hrel
            by_cases hlt : k < ai.length
            · obtain ⟨b, off, rfl, -, hc⟩ := Row.cell (HK4.out.2.2.2.2.below hbel) hlt
              have hr0 := HRI.out _ (at_mem hlt)
              have HW := Lib.hid (show wmL tp ai by_ (k + 1) = (wmL tp ai by_ k).set (ai.getD k 0).toNat ((wmL tp ai by_ k).getD (ai.getD k 0).toNat 0 + by_) from rfl)
              obtain ⟨z, hz⟩ : ∃ z : Nat, ai.getD k 0 = z := ⟨(ai.getD k 0).toNat, by omega⟩
              rw [hz] at hc hr0 HW
              rw [Int.toNat_natCast] at HW
              have hzl : z < tp.length := by omega
              have hzI : (z : Int) < (tp.length : Int) := by omega
              have hkI : (k : Int) < (ai.length : Int) := by omega
              obtain ⟨bd1, bd2⟩ := HBD.out k z
              have hll := wmL_len tp ai by_ k
              have hv0 : (intsV (wmL tp ai by_ k))[z]? = some (.int .i64 ((wmL tp ai by_ k).getD z 0)) := by
                have hz2 : z < (wmL tp ai by_ k).length := by rw [hll]; exact hzl
                simp [intsV, List.getD, hz2]
              obtain ⟨g, rfl⟩ : ∃ g, ua = some ⟨g, 0, none⟩ := by
                rcases hown.2 with ⟨-, h0⟩ | ⟨g, cap', cur, e1, -⟩
                · omega
                · injection e1 with e1 e2 e3; exact ⟨g, e1⟩
              have dz : wr.cell? ⟨g, z, none⟩ = some (.int .i64 ((wmL tp ai by_ k).getD z 0)) := by rw [hown.cellAt z (by omega), hv0]
              have fz := hown.frozenAt z
              have hgb : W4.heap.size ≤ g := (hown.lt g rfl).1
              have HST := Lib.hid (fun x => (hown.stored z (.int .i64 x)).1)
              have HBL := Lib.hid hbel
              clear hown hbel hll hv0 hz hr0
              generalize (wmL tp ai by_ k).getD z 0 = y at *
              have hwy : IntKind.i64.wrap (y + by_) = y + by_ := IntWalk.i64_in _ (by omega)
              go_wp2
              go_roundw
              case rel => exact ⟨k + 1, by omega, by go_num, by
                have h := HST.out (y + by_)
                rw [int_set] at h
                rw [HW.out]
                exact h, HBL.out.setCell (by show W4.heap.size ≤ g; exact hgb) _⟩
              case measure => simp [intOf]; omega
            · obtain rfl : k = ai.length := by omega
              have hll := wmL_len tp ai by_ ai.length
              have HOW := Lib.hid (show OwnI wr W4.heap.size _ (wmL tp ai by_ ai.length) by unfold OwnI; rw [hll]; exact hown)
              have HBL := Lib.hid hbel
              have HLL := Lib.hid hll
              clear hown hbel hll
              have m0 := cell_keep HK4.out.1 HBL.out
              have m1 := cell_keep HK4.out.2.1 HBL.out
              generalize hL : wmL tp ai by_ ai.length = L at *
              have hlen1 : L.length ≤ 1048576 := by have := HLL.out; omega
              have HLE := Lib.hid (show L.length = tp.length from HLL.out)
              cases hf2 : flOk (-300) 600 xs.length L
              · rw [hf2] at HE
                go_wp2_with (go_at_call 43; (with_reducible refine (areTemperatures_any J A xs.length cap _ L wr (row_ownI HOW.out) (by omega) hl).mono ?_); rintro e w5 ⟨rfl, hd⟩; rw [hf2]; have HO5 := Lib.hid (HOW.out.below hd); have HB5 := Lib.hid (HBL.out.trans (hd.mono HBL.out.size)); clear hd)
                go_ret2
                exact ⟨_, ret_vz (by rw [HE.out]; rfl), by rw [show wgR J xs tp ai by_ = [] by unfold wgR; rw [HE.out]; rfl]; exact own_nilz _ _, HB4.out.trans (HB5.out.mono HB4.out.size)⟩
              · rw [hf2] at HE
                go_wp2_with (go_at_call 43; (with_reducible refine (areTemperatures_any J A xs.length cap _ L wr (row_ownI HOW.out) (by omega) hl).mono ?_); rintro e w5 ⟨rfl, hd⟩; rw [hf2]; have HO5 := Lib.hid (HOW.out.below hd); have HB5 := Lib.hid (HBL.out.trans (hd.mono HBL.out.size)); clear hd)
                go_ret2
                exact ⟨_, ret_vz (by rw [HE.out]; rfl), by rw [show wgR J xs tp ai by_ = L by unfold wgR; rw [HE.out, hL]; rfl]; exact own_lez HO5.out HB4.out.size, HB4.out.trans (HB5.out.mono HB4.out.size)⟩
end Go.Proofs.Ytoojndohddellab
