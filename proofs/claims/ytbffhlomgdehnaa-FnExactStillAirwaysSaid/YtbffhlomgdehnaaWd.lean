/-
  Contracts of chapter 7: the airways with little flow; the model's and the program's. Conditions: those that each theorem states.
-/
import Derived.Test.YtbffhlomgdehnaaWa
import Derived.Maps.AppendAt
namespace Go.Proofs.Ytbffhlomgdehnaa
open Go.RowKit
set_option linter.unusedVariables false
set_option linter.unusedSimpArgs false

theorem quiet_s {P : Program} {f : FuncId} {args : Array Value} {w : World} {n : Nat} {v : Value}
    (h : Calls P f args (w.drewN n) fun e w' => e = .returned v ∧ w.drewN n = w') : Calls P f args (w.drewN n) fun e w'' => e = .returned v ∧ ∃ m, w'' = w.drewN m :=
  h.mono fun _ _ ⟨he, hm⟩ => ⟨he, n, hm.symm⟩
/-- The indices below n that fit, in ascending order. -/
def ixT (p : Nat → Bool) : Nat → List Int
  | 0 => []
  | k + 1 => if p k then ixT p k ++ [(k : Int)] else ixT p k
theorem ixT_len (p : Nat → Bool) : ∀ k, (ixT p k).length ≤ k
  | 0 => Nat.le_refl _
  | k + 1 => by have := ixT_len p k; rw [ixT]; split; (rw [List.length_append]; simp; omega); omega
theorem ixT_yes {p : Nat → Bool} {k : Nat} (h : p k = true) : ixT p (k + 1) = ixT p k ++ [(k : Int)] := by rw [ixT, if_pos h]
theorem ixT_no {p : Nat → Bool} {k : Nat} (h : p k = false) : ixT p (k + 1) = ixT p k := by rw [ixT, h]; rfl
theorem ints_snocY (l : List Int) (x : Int) : intsV (l ++ [x]) = intsV l ++ [.int .i64 x] := by simp [intsV]
def stP (fl : List Int) (q : Int) (k : Nat) : Bool := decide (absR (fl.getD k 0) < q)
/-- What StillAirways returns. -/
def stB (J : Int) (xs : List Aw) (fl : List Int) (q : Int) : Int := if mineOk J xs then (if inB q 0 100000 then (if flOk (-100000) 100000 xs.length fl then 0 else 7) else 2) else 1
def stR (J : Int) (xs : List Aw) (fl : List Int) (q : Int) : List Int := if stB J xs fl q = 0 then ixT (stP fl q) xs.length else []
theorem stR_len (J : Int) (xs : List Aw) (fl : List Int) (q : Int) : (stR J xs fl q).length ≤ xs.length := by unfold stR; split; exact ixT_len _ _; simp
theorem ret_vs {v : Value} {b b' : Int} (h : b = b') : Ending.returned (.tuple #[v, .int .i64 b]) = .returned (.tuple #[v, .int .i64 b']) := by rw [h]
theorem cellnew (W : World) (T : TypeId) (v : Value) : (W.alloc (.cells #[v] T)).cell? ⟨W.heap.size, 0, none⟩ = some v := by simp
theorem own_nils (w : World) (B : Nat) : OwnI w B (.slice none 0 0) [] := World.ownsRow_nil _ _ _ _
theorem own_les {w : World} {B B' : Nat} {v : Value} {xs : List Int} (h : OwnI w B v xs) (hb : B' ≤ B) : OwnI w B' v xs := by
  obtain ⟨hl, h⟩ := h
  refine ⟨hl, ?_⟩
  rcases h with h | ⟨g, cap, cur, e, hg, r⟩
  · exact .inl h
  · exact .inr ⟨g, cap, cur, e, Nat.le_trans hb hg, r⟩
set_option maxHeartbeats 2000000 in
set_option maxRecDepth 100000 in
theorem sStillAirways_any (J : Int) (A : Option Addr) (cap : Nat) (xs : List Aw) (v : Value) (fl : List Int) (q : Int) (w : World) (hr : AwR w A xs) (hs : ∀ a ∈ xs, a.s.size ≤ maxLen) (hl : xs.length ≤ 1048576) (hv : Row .i64 w v fl) (hfl : fl.length ≤ 1048576) :
    Calls Try.prog 45 #[.agg #[.int .i64 J, .slice A xs.length cap], v, .int .i64 q] w fun e w' => ∃ u, e = .returned (.tuple #[u, .int .i64 (stB J xs fl q)]) ∧ OwnI w' w.heap.size u (stR J xs fl q) ∧ Below w.heap.size w w' := by
  obtain ⟨F, fcap, rfl⟩ := hv.form
  have HB0 := Lib.hid (below_box w (.cells #[.int .i64 J, .slice A xs.length cap] 44))
  have HOKC := Lib.hid (l04Ok_any w.heap.size J A cap xs (w.alloc (.cells #[.int .i64 J, .slice A xs.length cap] 44)) (by simp) (by simp) (hr.below HB0.out) hs hl)
  have HK := Lib.hid (show (w.alloc (.cells #[.int .i64 J, .slice A xs.length cap] 44)).cell? ⟨w.heap.size, 0, none⟩ = some (.int .i64 J) ∧ (w.alloc (.cells #[.int .i64 J, .slice A xs.length cap] 44)).cell? ⟨w.heap.size, 1, none⟩ = some (.slice A xs.length cap) ∧ AwR (w.alloc (.cells #[.int .i64 J, .slice A xs.length cap] 44)) A xs ∧ Row .i64 (w.alloc (.cells #[.int .i64 J, .slice A xs.length cap] 44)) (.slice F fl.length fcap) fl from ⟨by simp, by simp, hr.below HB0.out, hv.below HB0.out⟩)
  obtain ⟨i0, hi, hz0, hz1, hz2⟩ := info_parts info_i64
  clear hr hv hs
  cases hok : mineOk J xs
  · have HE := Lib.hid (show stB J xs fl q = 1 ∧ stR J xs fl q = [] by simp [stB, stR, hok])
    go_enter Try.func45, Try.ntmps45
    go_wp2_with fail
    (with_reducible refine (HOKC.out).mono ?_)
    rintro e w1 ⟨rfl, n, rfl⟩
    rw [hok]
    have HK1 := Lib.hid (show ((w.alloc (.cells #[.int .i64 J, .slice A xs.length cap] 44)).drewN n).cell? ⟨w.heap.size, 0, none⟩ = some (.int .i64 J) ∧ ((w.alloc (.cells #[.int .i64 J, .slice A xs.length cap] 44)).drewN n).cell? ⟨w.heap.size, 1, none⟩ = some (.slice A xs.length cap) ∧ AwR ((w.alloc (.cells #[.int .i64 J, .slice A xs.length cap] 44)).drewN n) A xs ∧ Row .i64 ((w.alloc (.cells #[.int .i64 J, .slice A xs.length cap] 44)).drewN n) (.slice F fl.length fcap) fl from HK.out)
    have HB1 := Lib.hid (show Below w.heap.size w ((w.alloc (.cells #[.int .i64 J, .slice A xs.length cap] 44)).drewN n) from below_drewN' HB0.out n)
    generalize (w.alloc (.cells #[.int .i64 J, .slice A xs.length cap] 44)).drewN n = W1 at *
    go_wp2
    go_ret2
    exact ⟨_, ret_vs HE.out.1.symm, by rw [HE.out.2]; exact own_nils _ _, HB1.out⟩
  · obtain ⟨hj, -, h24⟩ := mineOk_iff.1 hok
    cases hx : inB q 0 100000
    · have HE := Lib.hid (show stB J xs fl q = 2 ∧ stR J xs fl q = [] by simp [stB, stR, hok, hx])
      go_enter Try.func45, Try.ntmps45
      go_wp2_with fail
      (with_reducible refine (HOKC.out).mono ?_)
      rintro e w1 ⟨rfl, n, rfl⟩
      rw [hok]
      have HK1 := Lib.hid (show ((w.alloc (.cells #[.int .i64 J, .slice A xs.length cap] 44)).drewN n).cell? ⟨w.heap.size, 0, none⟩ = some (.int .i64 J) ∧ ((w.alloc (.cells #[.int .i64 J, .slice A xs.length cap] 44)).drewN n).cell? ⟨w.heap.size, 1, none⟩ = some (.slice A xs.length cap) ∧ AwR ((w.alloc (.cells #[.int .i64 J, .slice A xs.length cap] 44)).drewN n) A xs ∧ Row .i64 ((w.alloc (.cells #[.int .i64 J, .slice A xs.length cap] 44)).drewN n) (.slice F fl.length fcap) fl from HK.out)
      have HB1 := Lib.hid (show Below w.heap.size w ((w.alloc (.cells #[.int .i64 J, .slice A xs.length cap] 44)).drewN n) from below_drewN' HB0.out n)
      generalize (w.alloc (.cells #[.int .i64 J, .slice A xs.length cap] 44)).drewN n = W1 at *
      go_wp2_with (first
        | (go_at_call 90; refine (l00In_any _ _ _ _).mono ?_; rintro e w' ⟨rfl, rfl⟩; rw [hx])
      )
      go_ret2
      exact ⟨_, ret_vs HE.out.1.symm, by rw [HE.out.2]; exact own_nils _ _, HB1.out⟩
    · cases hf : flOk (-100000) 100000 xs.length fl
      · have HE := Lib.hid (show stB J xs fl q = 7 ∧ stR J xs fl q = [] by simp [stB, stR, hok, hx, hf])
        go_enter Try.func45, Try.ntmps45
        go_wp2_with fail
        (with_reducible refine (HOKC.out).mono ?_)
        rintro e w1 ⟨rfl, n, rfl⟩
        rw [hok]
        have HK1 := Lib.hid (show ((w.alloc (.cells #[.int .i64 J, .slice A xs.length cap] 44)).drewN n).cell? ⟨w.heap.size, 0, none⟩ = some (.int .i64 J) ∧ ((w.alloc (.cells #[.int .i64 J, .slice A xs.length cap] 44)).drewN n).cell? ⟨w.heap.size, 1, none⟩ = some (.slice A xs.length cap) ∧ AwR ((w.alloc (.cells #[.int .i64 J, .slice A xs.length cap] 44)).drewN n) A xs ∧ Row .i64 ((w.alloc (.cells #[.int .i64 J, .slice A xs.length cap] 44)).drewN n) (.slice F fl.length fcap) fl from HK.out)
        have HB1 := Lib.hid (show Below w.heap.size w ((w.alloc (.cells #[.int .i64 J, .slice A xs.length cap] 44)).drewN n) from below_drewN' HB0.out n)
        generalize (w.alloc (.cells #[.int .i64 J, .slice A xs.length cap] 44)).drewN n = W1 at *
        go_wp2_with (first
          | (go_at_call 90; refine (l00In_any _ _ _ _).mono ?_; rintro e w' ⟨rfl, rfl⟩; rw [hx])
          | (go_at_call 82; refine (l07Flows_any w.heap.size xs.length cap A _ fl _ HK1.out.2.1 (RowW.of_row HK1.out.2.2.2) (by omega) (by omega)).mono ?_; rintro e w' ⟨rfl, rfl⟩; rw [hf])
        )
        go_ret2
        exact ⟨_, ret_vs HE.out.1.symm, by rw [HE.out.2]; exact own_nils _ _, HB1.out⟩
      · have HE := Lib.hid (show stB J xs fl q = 0 ∧ stR J xs fl q = ixT (stP fl q) xs.length by simp [stB, stR, hok, hx, hf])
        have HF := Lib.hid (flOk_iff.1 hf)
        have hlf0 := Nat.le_of_eq HF.out.1
        have hlf1 := Nat.le_of_eq HF.out.1.symm
        go_enter Try.func45, Try.ntmps45
        go_wp2_with fail
        (with_reducible refine (HOKC.out).mono ?_)
        rintro e w1 ⟨rfl, n, rfl⟩
        rw [hok]
        have HK1 := Lib.hid (show ((w.alloc (.cells #[.int .i64 J, .slice A xs.length cap] 44)).drewN n).cell? ⟨w.heap.size, 0, none⟩ = some (.int .i64 J) ∧ ((w.alloc (.cells #[.int .i64 J, .slice A xs.length cap] 44)).drewN n).cell? ⟨w.heap.size, 1, none⟩ = some (.slice A xs.length cap) ∧ AwR ((w.alloc (.cells #[.int .i64 J, .slice A xs.length cap] 44)).drewN n) A xs ∧ Row .i64 ((w.alloc (.cells #[.int .i64 J, .slice A xs.length cap] 44)).drewN n) (.slice F fl.length fcap) fl from HK.out)
        have HB1 := Lib.hid (show Below w.heap.size w ((w.alloc (.cells #[.int .i64 J, .slice A xs.length cap] 44)).drewN n) from below_drewN' HB0.out n)
        generalize (w.alloc (.cells #[.int .i64 J, .slice A xs.length cap] 44)).drewN n = W1 at *
        go_wp2_with (first
          | (go_at_call 90; refine (l00In_any _ _ _ _).mono ?_; rintro e w' ⟨rfl, rfl⟩; rw [hx])
          | (go_at_call 82; refine (l07Flows_any w.heap.size xs.length cap A _ fl _ HK1.out.2.1 (RowW.of_row HK1.out.2.2.2) (by omega) (by omega)).mono ?_; rintro e w' ⟨rfl, rfl⟩; rw [hf])
        )
        have HC1 := Lib.hid (below_box W1 (.cells #[] 2))
        have hw1 : w.heap.size < W1.heap.size := World.block_lt_of_cell? _ _ HK1.out.1
        go_loopw [8, 9] (fun out i wr => ∃ k : Nat, k ≤ xs.length ∧ i = .int .i64 k ∧ wr.ownsRow W1.heap.size 2 1 out (ixT (stP fl q) k).length (intsV (ixT (stP fl q) k)) ∧ Below W1.heap.size W1 wr) (fun out i wr => xs.length - (intOf i).toNat)
        case atStart => exact ⟨0, by omega, rfl, World.ownsRow_lit _ _ 0 (Nat.le_refl _) (by simp [maxLen]) rfl, HC1.out⟩
        case round =>
          obtain ⟨k, hk, rfl, hown, hbel⟩ := hrel
          have hwz := hbel.size
          by_cases hlt : k < xs.length
          · have hlf : k < fl.length := by omega
            obtain ⟨fb, fo, e1, -, hcf⟩ := Row.cell (HK1.out.2.2.2.below hbel) hlf
            subst e1
            have hin := HF.out.2 _ (List.getElem_mem hlf)
            have hgd : fl.getD k 0 = fl[k] := by simp [List.getD, hlf]
            have hll := ixT_len (stP fl q) k
            have HO := Lib.hid hown
            have HBL := Lib.hid hbel
            have t0 : (k : Int) < (fl.length : Int) := by omega
            by_cases hp : absR (fl.getD k 0) < q
            · have HN := Lib.hid (ixT_yes (p := stP fl q) (k := k) (by unfold stP; exact decide_eq_true hp))
              rw [hgd] at hcf hp
              clear hown hbel hgd
              generalize fl[k] = z at *
              go_wp2_with (first
                | (go_at_call 91; refine (l03Abs_any z _ (by omega) (by omega)).mono ?_; rintro e w' ⟨rfl, rfl⟩)
                | (at_builtin; refine wpList_append_own_at _ rfl _ _ 22 rfl W1.heap.size 2 i0 (.int .i64 0) 1 8 Try.underlying22 hi hz0 hz1 hz2 rfl (by decide) _ _ _ rfl (HO.out.alloc _) ⟨wr.heap.size, 0, none⟩ 1 1 [.int .i64 (k)] rfl rfl ?c1z ?c2z ?c3z ?c4z ?c5z ?_))
              case c1z => intro j u hj; match j, hj with | 0, hj => (simp at hj; subst hj; simp [Addr.add]) | j + 1, hj => (simp at hj)
              case c2z => simp [Value.oneCell']
              case c3z => unfold maxLen; omega
              case c4z => omega
              case c5z => (simp; omega)
              intro v3 w3 ho3 hg3 _ hl3
              have HO3 := Lib.hid ho3
              have HB3 := Lib.hid ((HBL.out.alloc HBL.out.size _).grown hg3 (by simp; omega) (fun k hk => (HO.out.lt k hk).1))
              clear ho3 hg3 hl3
              go_wp2
              go_roundw
              case rel => exact ⟨k + 1, by omega, by go_num, by rw [HN.out, ints_snocY, List.length_append]; exact HO3.out, HB3.out⟩
              case measure => simp [intOf]; omega
            · have HN := Lib.hid (ixT_no (p := stP fl q) (k := k) (by unfold stP; exact decide_eq_false hp))
              rw [hgd] at hcf hp
              clear hown hbel hgd
              generalize fl[k] = z at *
              go_wp2_with (go_at_call 91; refine (l03Abs_any z _ (by omega) (by omega)).mono ?_; rintro e w' ⟨rfl, rfl⟩)
              go_roundw
              case rel => exact ⟨k + 1, by omega, by go_num, by rw [HN.out]; exact HO.out, HBL.out⟩
              case measure => simp [intOf]; omega
          · obtain rfl : k = xs.length := by omega
            have t0 : ¬ (xs.length : Int) < (fl.length : Int) := by omega
            have HO := Lib.hid hown
            clear hown
            go_wp2
            go_ret2
            exact ⟨_, ret_vs HE.out.1.symm, by rw [HE.out.2]; exact own_les (show OwnI wr W1.heap.size _ (ixT (stP fl q) xs.length) from HO.out) (Nat.le_of_lt hw1), HB1.out.trans (hbel.mono HB1.out.size)⟩
theorem still1_any (fl : List Int) (q : Int) (F : Option Addr) (fcap k : Nat) (bf bq : Nat) (w : World) (c0 : w.cell? ⟨bf, 0, none⟩ = some (.slice F fl.length fcap)) (c1 : w.cell? ⟨bq, 0, none⟩ = some (.int .i64 q))
    (hv : Row .i64 w (.slice F fl.length fcap) fl) (hk : k < fl.length) (hfl : ∀ y ∈ fl, -100000 ≤ y ∧ y ≤ 100000) (hl : fl.length ≤ 1048576) :
    Calls Try.prog 94 #[.int .i64 (k : Int), .pointer (some ⟨bf, 0, none⟩), .pointer (some ⟨bq, 0, none⟩)] w fun e w' => e = .returned (.bool (stP fl q k)) ∧ Below w.heap.size w w' := by
  obtain ⟨fb, fo, e1, -, hcf⟩ := Row.cell hv hk
  subst e1
  have HE := Lib.hid (show stP fl q k = decide (absR (fl.getD k 0) < q) from rfl)
  have hin := hfl _ (List.getElem_mem hk)
  have hgd : fl.getD k 0 = fl[k] := by simp [List.getD, hk]
  rw [hgd] at hcf HE
  have t0 : (k : Int) < (fl.length : Int) := by omega
  clear hv hfl hgd
  generalize fl[k] = z at *
  go_enter Try.func94, Try.ntmps94
  go_wp2
  go_quiet ((go_at_call 95; exact quiet_s (absolute_any z _ (by omega) (by omega))))
  go_wp2
  go_ret
  exact ⟨ret_bool HE.out.symm, below_drewN' (Below.refl _ _) _⟩
set_option maxHeartbeats 2000000 in
set_option maxRecDepth 100000 in
theorem thatStill (bf bq : Nat) (p : Nat → Bool) (J : Int) (A : Option Addr) (n cap : Nat) (w : World) (hn : n ≤ 1048576)
    (hf : ∀ (k : Nat) (w1 : World), k < n → Below w.heap.size w w1 → Calls Try.prog 94 #[.int .i64 (k : Int), .pointer (some ⟨bf, 0, none⟩), .pointer (some ⟨bq, 0, none⟩)] w1 fun e w2 => e = .returned (.bool (p k)) ∧ Below w1.heap.size w1 w2) :
    Calls Try.prog 93 #[.agg #[.int .i64 J, .slice A n cap], .func (.func 94) #[] #[.pointer (some ⟨bf, 0, none⟩), .pointer (some ⟨bq, 0, none⟩)]] w fun e w' => ∃ v, e = .returned v ∧ OwnI w' w.heap.size v (ixT p n) ∧ Below w.heap.size w w' := by
  have HF := Lib.hid hf
  obtain ⟨i0, hi, hz0, hz1, hz2⟩ := info_parts info_i64
  have HB0 := Lib.hid (below_box w (.cells #[.int .i64 J, .slice A n cap] 44))
  clear hf
  go_enter Try.func93, Try.ntmps93
  go_wp2
  go_loopw [5, 10] (fun out i wr => ∃ k : Nat, k ≤ n ∧ i = .int .i64 k ∧ wr.ownsRow w.heap.size 2 1 out (ixT p k).length (intsV (ixT p k)) ∧ Below w.heap.size w wr) (fun out i wr => n - (intOf i).toNat)
  case atStart => exact ⟨0, by omega, rfl, World.ownsRow_nil _ _ _ _, HB0.out⟩
  case round =>
    obtain ⟨k, hk, rfl, hown, hbel⟩ := hrel
    by_cases hlt : k < n
    · have HX := Lib.hid (HF.out k wr hlt hbel)
      have hll := ixT_len p k
      have HO := Lib.hid hown
      have HBL := Lib.hid hbel
      have hwr : w.heap.size ≤ wr.heap.size := hbel.size
      clear hown hbel
      cases he : p k
      · rw [he] at HX
        have HN := Lib.hid (ixT_no he)
        clear he
        go_wp2_with fail
        (with_reducible refine (HX.out).mono ?_)
        rintro e w2 ⟨rfl, hb2⟩
        have HO2 := Lib.hid (own_below HO.out hb2)
        have HB2 := Lib.hid (HBL.out.trans (hb2.mono HBL.out.size))
        clear hb2
        go_wp2
        go_roundw
        case rel => exact ⟨k + 1, by omega, by go_num, by rw [HN.out]; exact HO2.out, HB2.out⟩
        case measure => simp [intOf]; omega
      · rw [he] at HX
        have HN := Lib.hid (ixT_yes he)
        clear he
        go_wp2_with fail
        (with_reducible refine (HX.out).mono ?_)
        rintro e w2 ⟨rfl, hb2⟩
        have HO2 := Lib.hid (own_below HO.out hb2)
        have HB2 := Lib.hid (HBL.out.trans (hb2.mono HBL.out.size))
        have hw2 : w.heap.size ≤ w2.heap.size := HB2.out.size
        clear hb2
        go_wp2_with (first
          | (at_builtin; refine wpList_append_own_at _ rfl _ _ 22 rfl w.heap.size 2 i0 (.int .i64 0) 1 8 Try.underlying22 hi hz0 hz1 hz2 rfl (by decide) _ _ _ rfl (HO2.out.alloc _) ⟨w2.heap.size, 0, none⟩ 1 1 [.int .i64 (k)] rfl rfl ?c1z ?c2z ?c3z ?c4z ?c5z ?_))
        case c1z => intro j u hj; match j, hj with | 0, hj => (simp at hj; subst hj; simp [Addr.add]) | j + 1, hj => (simp at hj)
        case c2z => simp [Value.oneCell']
        case c3z => unfold maxLen; omega
        case c4z => omega
        case c5z => (simp; omega)
        intro v3 w3 ho3 hg3 _ hl3
        have HO3 := Lib.hid ho3
        have HB3 := Lib.hid ((HB2.out.alloc HB2.out.size _).grown hg3 (by simp; omega) (fun k hk => (HO2.out.lt k hk).1))
        clear ho3 hg3 hl3
        go_wp2
        go_roundw
        case rel => exact ⟨k + 1, by omega, by go_num, by rw [HN.out, ints_snocY, List.length_append]; exact HO3.out, HB3.out⟩
        case measure => simp [intOf]; omega
    · obtain rfl : k = n := by omega
      have HO := Lib.hid hown
      have HBL := Lib.hid hbel
      clear hown hbel
      go_wp2
      go_ret
      exact ⟨_, rfl, HO.out, HBL.out⟩
set_option maxHeartbeats 2000000 in
set_option maxRecDepth 100000 in
theorem iStillAirways_any (J : Int) (A : Option Addr) (cap : Nat) (xs : List Aw) (v : Value) (fl : List Int) (q : Int) (w : World) (hr : AwR w A xs) (hs : ∀ a ∈ xs, a.s.size ≤ maxLen) (hl : xs.length ≤ 1048576) (hv : Row .i64 w v fl) (hfl : fl.length ≤ 1048576) :
    Calls Try.prog 46 #[.agg #[.int .i64 J, .slice A xs.length cap], v, .int .i64 q] w fun e w' => ∃ u, e = .returned (.tuple #[u, .int .i64 (stB J xs fl q)]) ∧ OwnI w' w.heap.size u (stR J xs fl q) ∧ Below w.heap.size w w' := by
  obtain ⟨F, fcap, rfl⟩ := hv.form
  have HB0 := Lib.hid (show Below w.heap.size w (((w.alloc (.cells #[.int .i64 J, .slice A xs.length cap] 44)).alloc (.cells #[.slice F fl.length fcap] 22)).alloc (.cells #[.int .i64 q] 2)) from ((below_box _ _).alloc (by simp) _).alloc (by simp <;> omega) _)
  have HK0 := Lib.hid (show ((((w.alloc (.cells #[.int .i64 J, .slice A xs.length cap] 44)).alloc (.cells #[.slice F fl.length fcap] 22)).alloc (.cells #[.int .i64 q] 2)).cell? ⟨w.heap.size, 0, none⟩ = some (.int .i64 J) ∧ (((w.alloc (.cells #[.int .i64 J, .slice A xs.length cap] 44)).alloc (.cells #[.slice F fl.length fcap] 22)).alloc (.cells #[.int .i64 q] 2)).cell? ⟨w.heap.size, 1, none⟩ = some (.slice A xs.length cap)) ∧ (((w.alloc (.cells #[.int .i64 J, .slice A xs.length cap] 44)).alloc (.cells #[.slice F fl.length fcap] 22)).alloc (.cells #[.int .i64 q] 2)).cell? ⟨w.heap.size + 1, 0, none⟩ = some (.slice F fl.length fcap) ∧ (((w.alloc (.cells #[.int .i64 J, .slice A xs.length cap] 44)).alloc (.cells #[.slice F fl.length fcap] 22)).alloc (.cells #[.int .i64 q] 2)).cell? ⟨w.heap.size + 2, 0, none⟩ = some (.int .i64 q) ∧ AwR (((w.alloc (.cells #[.int .i64 J, .slice A xs.length cap] 44)).alloc (.cells #[.slice F fl.length fcap] 22)).alloc (.cells #[.int .i64 q] 2)) A xs ∧ Row .i64 (((w.alloc (.cells #[.int .i64 J, .slice A xs.length cap] 44)).alloc (.cells #[.slice F fl.length fcap] 22)).alloc (.cells #[.int .i64 q] 2)) (.slice F fl.length fcap) fl from ⟨⟨cell_keep (w := w.alloc (.cells #[.int .i64 J, .slice A xs.length cap] 44)) (by simp) ((below_box _ _).alloc (by simp) _), cell_keep (w := w.alloc (.cells #[.int .i64 J, .slice A xs.length cap] 44)) (by simp) ((below_box _ _).alloc (by simp) _)⟩, cell_keep (w := ((w.alloc (.cells #[.int .i64 J, .slice A xs.length cap] 44)).alloc (.cells #[.slice F fl.length fcap] 22))) (by simp) (below_box _ _), (by have h := cellnew ((w.alloc (.cells #[.int .i64 J, .slice A xs.length cap] 44)).alloc (.cells #[.slice F fl.length fcap] 22)) 2 (.int .i64 q); rwa [show ((w.alloc (.cells #[.int .i64 J, .slice A xs.length cap] 44)).alloc (.cells #[.slice F fl.length fcap] 22)).heap.size = w.heap.size + 2 by simp] at h), hr.below HB0.out, hv.below HB0.out⟩)
  have HS0 := Lib.hid hs
  have hsz : (((w.alloc (.cells #[.int .i64 J, .slice A xs.length cap] 44)).alloc (.cells #[.slice F fl.length fcap] 22)).alloc (.cells #[.int .i64 q] 2)).heap.size = w.heap.size + 3 := by simp
  clear hr hv hs
  cases hok : mineOk J xs
  · have HE := Lib.hid (show stB J xs fl q = 1 ∧ stR J xs fl q = [] by simp [stB, stR, hok])
    go_enter Try.func46, Try.ntmps46
    go_wp2_with fail
    obtain ⟨w0, hw0⟩ : ∃ x, x = (((w.alloc (.cells #[.int .i64 J, .slice A xs.length cap] 44)).alloc (.cells #[.slice F fl.length fcap] 22)).alloc (.cells #[.int .i64 q] 2)) := ⟨_, rfl⟩
    rw [← hw0] at HB0 HK0 hsz ⊢
    clear hw0
    obtain ⟨⟨c0, c1⟩, c2, c3, -, -⟩ := HK0.out
    go_wp2_with (first
      | (go_at_call 78; refine (iValidMine_any J A cap xs _ HK0.out.2.2.2.1 HS0.out hl).mono ?_; rintro e w1 ⟨rfl, hd1⟩; rw [hok]; have HB1 := Lib.hid (HB0.out.trans (hd1.mono HB0.out.size)); have HK1 := Lib.hid (show (w1.cell? ⟨w.heap.size, 0, none⟩ = some (.int .i64 J) ∧ w1.cell? ⟨w.heap.size, 1, none⟩ = some (.slice A xs.length cap)) ∧ w1.cell? ⟨w.heap.size + 1, 0, none⟩ = some (.slice F fl.length fcap) ∧ w1.cell? ⟨w.heap.size + 2, 0, none⟩ = some (.int .i64 q) ∧ AwR w1 A xs ∧ Row .i64 w1 (.slice F fl.length fcap) fl from ⟨⟨cell_keep HK0.out.1.1 hd1, cell_keep HK0.out.1.2 hd1⟩, cell_keep HK0.out.2.1 hd1, cell_keep HK0.out.2.2.1 hd1, HK0.out.2.2.2.1.below hd1, HK0.out.2.2.2.2.below hd1⟩); obtain ⟨⟨c0_1, c1_1⟩, c2_1, c3_1, -, -⟩ := HK1.out; clear hd1)
    )
    go_ret2
    exact ⟨_, ret_vs HE.out.1.symm, by rw [HE.out.2]; exact own_nils _ _, HB1.out⟩
  · obtain ⟨hj, -, h24⟩ := mineOk_iff.1 hok
    cases hx : inB q 0 100000
    · have HE := Lib.hid (show stB J xs fl q = 2 ∧ stR J xs fl q = [] by simp [stB, stR, hok, hx])
      go_enter Try.func46, Try.ntmps46
      go_wp2_with fail
      obtain ⟨w0, hw0⟩ : ∃ x, x = (((w.alloc (.cells #[.int .i64 J, .slice A xs.length cap] 44)).alloc (.cells #[.slice F fl.length fcap] 22)).alloc (.cells #[.int .i64 q] 2)) := ⟨_, rfl⟩
      rw [← hw0] at HB0 HK0 hsz ⊢
      clear hw0
      obtain ⟨⟨c0, c1⟩, c2, c3, -, -⟩ := HK0.out
      go_wp2_with (first
        | (go_at_call 78; refine (iValidMine_any J A cap xs _ HK0.out.2.2.2.1 HS0.out hl).mono ?_; rintro e w1 ⟨rfl, hd1⟩; rw [hok]; have HB1 := Lib.hid (HB0.out.trans (hd1.mono HB0.out.size)); have HK1 := Lib.hid (show (w1.cell? ⟨w.heap.size, 0, none⟩ = some (.int .i64 J) ∧ w1.cell? ⟨w.heap.size, 1, none⟩ = some (.slice A xs.length cap)) ∧ w1.cell? ⟨w.heap.size + 1, 0, none⟩ = some (.slice F fl.length fcap) ∧ w1.cell? ⟨w.heap.size + 2, 0, none⟩ = some (.int .i64 q) ∧ AwR w1 A xs ∧ Row .i64 w1 (.slice F fl.length fcap) fl from ⟨⟨cell_keep HK0.out.1.1 hd1, cell_keep HK0.out.1.2 hd1⟩, cell_keep HK0.out.2.1 hd1, cell_keep HK0.out.2.2.1 hd1, HK0.out.2.2.2.1.below hd1, HK0.out.2.2.2.2.below hd1⟩); obtain ⟨⟨c0_1, c1_1⟩, c2_1, c3_1, -, -⟩ := HK1.out; clear hd1)
        | (go_at_call 92; refine (within64_one _ _ _ w1 _ _ rfl).mono ?_; rintro e w' ⟨rfl, rfl⟩; rw [hx]; obtain ⟨w2, hw2⟩ : ∃ x, x = w1.alloc (.cells #[.int .i64 q] 2) := ⟨_, rfl⟩; have hd2 : Below w1.heap.size w1 w2 := hw2 ▸ below_box _ _; rw [← hw2]; clear hw2; have HB2 := Lib.hid (HB1.out.trans (hd2.mono HB1.out.size)); have HK2 := Lib.hid (show (w2.cell? ⟨w.heap.size, 0, none⟩ = some (.int .i64 J) ∧ w2.cell? ⟨w.heap.size, 1, none⟩ = some (.slice A xs.length cap)) ∧ w2.cell? ⟨w.heap.size + 1, 0, none⟩ = some (.slice F fl.length fcap) ∧ w2.cell? ⟨w.heap.size + 2, 0, none⟩ = some (.int .i64 q) ∧ AwR w2 A xs ∧ Row .i64 w2 (.slice F fl.length fcap) fl from ⟨⟨cell_keep HK1.out.1.1 hd2, cell_keep HK1.out.1.2 hd2⟩, cell_keep HK1.out.2.1 hd2, cell_keep HK1.out.2.2.1 hd2, HK1.out.2.2.2.1.below hd2, HK1.out.2.2.2.2.below hd2⟩); obtain ⟨⟨c0_2, c1_2⟩, c2_2, c3_2, -, -⟩ := HK2.out; clear hd2)
      )
      go_ret2
      exact ⟨_, ret_vs HE.out.1.symm, by rw [HE.out.2]; exact own_nils _ _, HB2.out⟩
    · cases hf : flOk (-100000) 100000 xs.length fl
      · have HE := Lib.hid (show stB J xs fl q = 7 ∧ stR J xs fl q = [] by simp [stB, stR, hok, hx, hf])
        go_enter Try.func46, Try.ntmps46
        go_wp2_with fail
        obtain ⟨w0, hw0⟩ : ∃ x, x = (((w.alloc (.cells #[.int .i64 J, .slice A xs.length cap] 44)).alloc (.cells #[.slice F fl.length fcap] 22)).alloc (.cells #[.int .i64 q] 2)) := ⟨_, rfl⟩
        rw [← hw0] at HB0 HK0 hsz ⊢
        clear hw0
        obtain ⟨⟨c0, c1⟩, c2, c3, -, -⟩ := HK0.out
        go_wp2_with (first
          | (go_at_call 78; refine (iValidMine_any J A cap xs _ HK0.out.2.2.2.1 HS0.out hl).mono ?_; rintro e w1 ⟨rfl, hd1⟩; rw [hok]; have HB1 := Lib.hid (HB0.out.trans (hd1.mono HB0.out.size)); have HK1 := Lib.hid (show (w1.cell? ⟨w.heap.size, 0, none⟩ = some (.int .i64 J) ∧ w1.cell? ⟨w.heap.size, 1, none⟩ = some (.slice A xs.length cap)) ∧ w1.cell? ⟨w.heap.size + 1, 0, none⟩ = some (.slice F fl.length fcap) ∧ w1.cell? ⟨w.heap.size + 2, 0, none⟩ = some (.int .i64 q) ∧ AwR w1 A xs ∧ Row .i64 w1 (.slice F fl.length fcap) fl from ⟨⟨cell_keep HK0.out.1.1 hd1, cell_keep HK0.out.1.2 hd1⟩, cell_keep HK0.out.2.1 hd1, cell_keep HK0.out.2.2.1 hd1, HK0.out.2.2.2.1.below hd1, HK0.out.2.2.2.2.below hd1⟩); obtain ⟨⟨c0_1, c1_1⟩, c2_1, c3_1, -, -⟩ := HK1.out; clear hd1)
          | (go_at_call 92; refine (within64_one _ _ _ w1 _ _ rfl).mono ?_; rintro e w' ⟨rfl, rfl⟩; rw [hx]; obtain ⟨w2, hw2⟩ : ∃ x, x = w1.alloc (.cells #[.int .i64 q] 2) := ⟨_, rfl⟩; have hd2 : Below w1.heap.size w1 w2 := hw2 ▸ below_box _ _; rw [← hw2]; clear hw2; have HB2 := Lib.hid (HB1.out.trans (hd2.mono HB1.out.size)); have HK2 := Lib.hid (show (w2.cell? ⟨w.heap.size, 0, none⟩ = some (.int .i64 J) ∧ w2.cell? ⟨w.heap.size, 1, none⟩ = some (.slice A xs.length cap)) ∧ w2.cell? ⟨w.heap.size + 1, 0, none⟩ = some (.slice F fl.length fcap) ∧ w2.cell? ⟨w.heap.size + 2, 0, none⟩ = some (.int .i64 q) ∧ AwR w2 A xs ∧ Row .i64 w2 (.slice F fl.length fcap) fl from ⟨⟨cell_keep HK1.out.1.1 hd2, cell_keep HK1.out.1.2 hd2⟩, cell_keep HK1.out.2.1 hd2, cell_keep HK1.out.2.2.1 hd2, HK1.out.2.2.2.1.below hd2, HK1.out.2.2.2.2.below hd2⟩); obtain ⟨⟨c0_2, c1_2⟩, c2_2, c3_2, -, -⟩ := HK2.out; clear hd2)
          | (go_at_call 84; refine (areFlows_any J A xs.length cap _ fl _ HK2.out.2.2.2.2 (Nat.le_trans hfl (by decide)) hl).mono ?_; rintro e w3 ⟨rfl, hd3⟩; rw [hf]; have HB3 := Lib.hid (HB2.out.trans (hd3.mono HB2.out.size)); have HK3 := Lib.hid (show (w3.cell? ⟨w.heap.size, 0, none⟩ = some (.int .i64 J) ∧ w3.cell? ⟨w.heap.size, 1, none⟩ = some (.slice A xs.length cap)) ∧ w3.cell? ⟨w.heap.size + 1, 0, none⟩ = some (.slice F fl.length fcap) ∧ w3.cell? ⟨w.heap.size + 2, 0, none⟩ = some (.int .i64 q) ∧ AwR w3 A xs ∧ Row .i64 w3 (.slice F fl.length fcap) fl from ⟨⟨cell_keep HK2.out.1.1 hd3, cell_keep HK2.out.1.2 hd3⟩, cell_keep HK2.out.2.1 hd3, cell_keep HK2.out.2.2.1 hd3, HK2.out.2.2.2.1.below hd3, HK2.out.2.2.2.2.below hd3⟩); obtain ⟨⟨c0_3, c1_3⟩, c2_3, c3_3, -, -⟩ := HK3.out; clear hd3)
        )
        go_ret2
        exact ⟨_, ret_vs HE.out.1.symm, by rw [HE.out.2]; exact own_nils _ _, HB3.out⟩
      · have HE := Lib.hid (show stB J xs fl q = 0 ∧ stR J xs fl q = ixT (stP fl q) xs.length by simp [stB, stR, hok, hx, hf])
        have HF := Lib.hid (flOk_iff.1 hf)
        have hlf0 := Nat.le_of_eq HF.out.1
        have hlf1 := Nat.le_of_eq HF.out.1.symm
        go_enter Try.func46, Try.ntmps46
        go_wp2_with fail
        obtain ⟨w0, hw0⟩ : ∃ x, x = (((w.alloc (.cells #[.int .i64 J, .slice A xs.length cap] 44)).alloc (.cells #[.slice F fl.length fcap] 22)).alloc (.cells #[.int .i64 q] 2)) := ⟨_, rfl⟩
        rw [← hw0] at HB0 HK0 hsz ⊢
        clear hw0
        obtain ⟨⟨c0, c1⟩, c2, c3, -, -⟩ := HK0.out
        go_wp2_with (first
          | (go_at_call 78; refine (iValidMine_any J A cap xs _ HK0.out.2.2.2.1 HS0.out hl).mono ?_; rintro e w1 ⟨rfl, hd1⟩; rw [hok]; have HB1 := Lib.hid (HB0.out.trans (hd1.mono HB0.out.size)); have HK1 := Lib.hid (show (w1.cell? ⟨w.heap.size, 0, none⟩ = some (.int .i64 J) ∧ w1.cell? ⟨w.heap.size, 1, none⟩ = some (.slice A xs.length cap)) ∧ w1.cell? ⟨w.heap.size + 1, 0, none⟩ = some (.slice F fl.length fcap) ∧ w1.cell? ⟨w.heap.size + 2, 0, none⟩ = some (.int .i64 q) ∧ AwR w1 A xs ∧ Row .i64 w1 (.slice F fl.length fcap) fl from ⟨⟨cell_keep HK0.out.1.1 hd1, cell_keep HK0.out.1.2 hd1⟩, cell_keep HK0.out.2.1 hd1, cell_keep HK0.out.2.2.1 hd1, HK0.out.2.2.2.1.below hd1, HK0.out.2.2.2.2.below hd1⟩); obtain ⟨⟨c0_1, c1_1⟩, c2_1, c3_1, -, -⟩ := HK1.out; clear hd1)
          | (go_at_call 92; refine (within64_one _ _ _ w1 _ _ rfl).mono ?_; rintro e w' ⟨rfl, rfl⟩; rw [hx]; obtain ⟨w2, hw2⟩ : ∃ x, x = w1.alloc (.cells #[.int .i64 q] 2) := ⟨_, rfl⟩; have hd2 : Below w1.heap.size w1 w2 := hw2 ▸ below_box _ _; rw [← hw2]; clear hw2; have HB2 := Lib.hid (HB1.out.trans (hd2.mono HB1.out.size)); have HK2 := Lib.hid (show (w2.cell? ⟨w.heap.size, 0, none⟩ = some (.int .i64 J) ∧ w2.cell? ⟨w.heap.size, 1, none⟩ = some (.slice A xs.length cap)) ∧ w2.cell? ⟨w.heap.size + 1, 0, none⟩ = some (.slice F fl.length fcap) ∧ w2.cell? ⟨w.heap.size + 2, 0, none⟩ = some (.int .i64 q) ∧ AwR w2 A xs ∧ Row .i64 w2 (.slice F fl.length fcap) fl from ⟨⟨cell_keep HK1.out.1.1 hd2, cell_keep HK1.out.1.2 hd2⟩, cell_keep HK1.out.2.1 hd2, cell_keep HK1.out.2.2.1 hd2, HK1.out.2.2.2.1.below hd2, HK1.out.2.2.2.2.below hd2⟩); obtain ⟨⟨c0_2, c1_2⟩, c2_2, c3_2, -, -⟩ := HK2.out; clear hd2)
          | (go_at_call 84; refine (areFlows_any J A xs.length cap _ fl _ HK2.out.2.2.2.2 (Nat.le_trans hfl (by decide)) hl).mono ?_; rintro e w3 ⟨rfl, hd3⟩; rw [hf]; have HB3 := Lib.hid (HB2.out.trans (hd3.mono HB2.out.size)); have HK3 := Lib.hid (show (w3.cell? ⟨w.heap.size, 0, none⟩ = some (.int .i64 J) ∧ w3.cell? ⟨w.heap.size, 1, none⟩ = some (.slice A xs.length cap)) ∧ w3.cell? ⟨w.heap.size + 1, 0, none⟩ = some (.slice F fl.length fcap) ∧ w3.cell? ⟨w.heap.size + 2, 0, none⟩ = some (.int .i64 q) ∧ AwR w3 A xs ∧ Row .i64 w3 (.slice F fl.length fcap) fl from ⟨⟨cell_keep HK2.out.1.1 hd3, cell_keep HK2.out.1.2 hd3⟩, cell_keep HK2.out.2.1 hd3, cell_keep HK2.out.2.2.1 hd3, HK2.out.2.2.2.1.below hd3, HK2.out.2.2.2.2.below hd3⟩); obtain ⟨⟨c0_3, c1_3⟩, c2_3, c3_3, -, -⟩ := HK3.out; clear hd3)
          | (go_at_call 93; refine (thatStill (w.heap.size + 1) (w.heap.size + 2) (stP fl q) J A xs.length cap w3 hl (fun k w4 hk hb => still1_any fl q F fcap k (w.heap.size + 1) (w.heap.size + 2) w4 (cell_keep HK3.out.2.1 hb) (cell_keep HK3.out.2.2.1 hb) (HK3.out.2.2.2.2.below hb) (by omega) HF.out.2 hfl)).mono ?_; rintro e w5 ⟨u, rfl, ho, hd5⟩; have HO := Lib.hid (own_les ho HB3.out.size); have HB5 := Lib.hid (HB3.out.trans (hd5.mono HB3.out.size)); clear ho hd5)
        )
        go_ret2
        exact ⟨_, ret_vs HE.out.1.symm, by rw [HE.out.2]; exact HO.out, HB5.out⟩
end Go.Proofs.Ytbffhlomgdehnaa
