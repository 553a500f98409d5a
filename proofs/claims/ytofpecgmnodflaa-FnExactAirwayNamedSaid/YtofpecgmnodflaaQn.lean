/-
  Contracts of AirwayNamed: the map of indices; the program's and the model's. Conditions: those that each theorem states.
-/
import Derived.Test.YtofpecgmnodflaaGf
import Derived.Maps.OwnSet
import Derived.Carry
namespace Go.Proofs.Ytofpecgmnodflaa
open Go.RowKit
set_option linter.unusedVariables false
set_option linter.unusedSimpArgs false

theorem less_trans : ∀ x y z : List UInt8, Op.bytesLess x y = true → Op.bytesLess y z = true → Op.bytesLess x z = true
  | [], [], _, h, _ => by simp [Op.bytesLess] at h
  | [], _ :: _, [], _, h => by simp [Op.bytesLess] at h
  | [], _ :: _, _ :: _, _, _ => by simp [Op.bytesLess]
  | _ :: _, [], _, h, _ => by simp [Op.bytesLess] at h
  | _ :: _, _ :: _, [], _, h => by simp [Op.bytesLess] at h
  | a :: x, b :: y, c :: z, h1, h2 => by
    have ih := less_trans x y z
    simp only [Op.bytesLess] at h1 h2 ⊢
    simp only [Bool.or_eq_true, Bool.and_eq_true, decide_eq_true_eq, beq_iff_eq] at h1 h2 ⊢
    rcases h1 with h1 | ⟨rfl, h1⟩ <;> rcases h2 with h2 | ⟨rfl, h2⟩
    · exact .inl (UInt8.lt_trans h1 h2)
    · exact .inl h1
    · exact .inl h2
    · exact .inr ⟨rfl, ih h1 h2⟩
/-- The last place of a name among the first k airways, -1 if there is none. -/
def lastIx (xs : List Aw) (id : ByteArray) : Nat → Int
  | 0 => -1
  | k + 1 => if (xs.getD k Aw.none).s.data.toList = id.data.toList then (k : Int) else lastIx xs id k
theorem lastIx_bd (xs : List Aw) (id : ByteArray) : ∀ k, -1 ≤ lastIx xs id k ∧ lastIx xs id k < (k : Int)
  | 0 => by simp [lastIx]
  | k + 1 => by
    have := lastIx_bd xs id k
    rw [lastIx]; split <;> omega
theorem lastIx_neg {xs : List Aw} {id : ByteArray} : ∀ n, (∀ j (h : j < n), (xs.getD j Aw.none).s.data.toList ≠ id.data.toList) → lastIx xs id n = -1
  | 0, _ => rfl
  | n + 1, h => by rw [lastIx, if_neg (h n (by omega))]; exact lastIx_neg n fun j hj => h j (by omega)
/-- The map of the first k names. -/
def mapD {H : Type} (xs : List Aw) : Nat → DataW H
  | 0 => .map []
  | k + 1 => (mapD xs k).put (.string (xs.getD k Aw.none).s.data.toList) (.lit (.int .i64 (k : Int)))
theorem mapD_is {H : Type} (xs : List Aw) : ∀ k, Maps.IsMap (mapD (H := H) xs k)
  | 0 => ⟨[], rfl⟩
  | k + 1 => (mapD_is xs k).put _ _
theorem mapD_look {H : Type} (xs : List Aw) (id : ByteArray) (z : DataW H) : ∀ k, (Maps.has (mapD (H := H) xs k) (.string id.data.toList) = decide (0 ≤ lastIx xs id k)) ∧ (0 ≤ lastIx xs id k → (mapD xs k).atKey (.string id.data.toList) z = .lit (.int .i64 (lastIx xs id k)))
  | 0 => ⟨by simp [mapD, lastIx, Maps.has_eq], fun h => by simp [lastIx] at h⟩
  | k + 1 => by
    obtain ⟨h1, h2⟩ := mapD_look xs id z k
    rw [mapD, lastIx]
    by_cases e : (xs.getD k Aw.none).s.data.toList = id.data.toList
    · rw [if_pos e, e]
      refine ⟨?_, fun _ => Maps.atKey_put_same (mapD_is xs k) (by trivial) _ _⟩
      rw [Maps.has_put_same (mapD_is xs k) (by trivial)]
      simp
    · rw [if_neg e]
      have hne : (Lit.string id.data.toList) ≠ Lit.string (xs.getD k Aw.none).s.data.toList := fun h => e (by injection h with h; exact h.symm)
      refine ⟨by rw [Maps.has_put_other hne]; exact h1, fun h => ?_⟩
      rw [Maps.atKey_put_other hne]
      exact h2 h
/-- In a valid mine no name stands twice. -/
theorem names_rise {J : Int} {xs : List Aw} (h : mineOk J xs = true) : ∀ i k, i < k → k < xs.length → Op.bytesLess (xs.getD i Aw.none).s.toList (xs.getD k Aw.none).s.toList = true := by
  intro i k hik hk
  have step : ∀ k, 0 < k → k < xs.length → Op.bytesLess (xs.getD (k - 1) Aw.none).s.toList (xs.getD k Aw.none).s.toList = true := fun k h0 hk => by
    have := upTo_all _ (mineOk_iff.1 h).2.1 k hk
    unfold stepOk at this
    simp only [Bool.and_eq_true, Bool.or_eq_true, beq_iff_eq] at this
    rcases this.2 with e | e
    · omega
    · exact e
  induction k with
  | zero => omega
  | succ k ih =>
    have hs := step (k + 1) (by omega) hk
    rw [Nat.add_sub_cancel] at hs
    by_cases e : i = k
    · subst e; exact hs
    · exact less_trans _ _ _ (ih (by omega) (by omega)) hs
theorem names_apart {J : Int} {xs : List Aw} (h : mineOk J xs = true) {i k : Nat} (hik : i < k) (hk : k < xs.length) : (xs.getD i Aw.none).s.data.toList ≠ (xs.getD k Aw.none).s.data.toList := fun e => by
  have := names_rise h i k hik hk
  rw [ByteArray.toList_eq, ByteArray.toList_eq, e, less_irr] at this
  cases this
theorem lastIx_at {J : Int} {xs : List Aw} (h : mineOk J xs = true) {id : ByteArray} {k : Nat} (hk : k < xs.length) (e : (xs.getD k Aw.none).s.data.toList = id.data.toList) : ∀ n, k < n → n ≤ xs.length → lastIx xs id n = k
  | n + 1, h1, h2 => by
    rw [lastIx]
    by_cases q : k = n
    · subst q; rw [if_pos e]
    · rw [if_neg (fun e2 => names_apart h (show k < n by omega) (by omega) (e.trans e2.symm))]
      exact lastIx_at h hk e n (by omega) (by omega)
/-- What AirwayNamed returns. -/
def namA (J : Int) (xs : List Aw) (id : ByteArray) : Int := if mineOk J xs then (if 0 ≤ lastIx xs id xs.length then lastIx xs id xs.length else 0) else 0
def namB (J : Int) (xs : List Aw) (id : ByteArray) : Int := if mineOk J xs then (if 0 ≤ lastIx xs id xs.length then 0 else 3) else 1
theorem zeroI (w : World) : (zeroValue 2).run Try.prog w = .ok (.int .i64 0) w := by kernel_rfl
theorem keyS (s : ByteArray) (h : s.size ≤ maxLen) : keyOf Try.prog 9 (.string s) = some (.string s.data.toList) := WideMaps.keyOf_string_mk Try.underlying9 h
theorem str_eq {a b : ByteArray} (h : a.data.toList = b.data.toList) : (a.toList == b.toList) = true := by rw [ByteArray.toList_eq, ByteArray.toList_eq, h]; simp
theorem str_ne {a b : ByteArray} (h : a.data.toList ≠ b.data.toList) : (a.toList == b.toList) = false ∧ ¬ a.toList = b.toList := by
  rw [ByteArray.toList_eq, ByteArray.toList_eq]
  exact ⟨beq_false_of_ne h, h⟩
set_option maxHeartbeats 2000000 in
set_option maxRecDepth 100000 in
theorem indices_any (J : Int) (A : Option Addr) (cap : Nat) (xs : List Aw) (w : World) (hr : AwR w A xs) (hs : ∀ a ∈ xs, a.s.size ≤ maxLen) (hl : xs.length ≤ 1048576) :
    Calls Try.prog 55 #[.agg #[.int .i64 J, .slice A xs.length cap]] w fun e w' => ∃ b, e = .returned (.map (some b)) ∧ w'.ownsMap (H := Unit) Try.prog 9 (plainElem Try.prog 2) b xs.length (mapD xs xs.length) ∧ Below w.heap.size w w' := by
  have HR := Lib.hid hr
  have HS := Lib.hid hs
  have HB0 := Lib.hid (show Below w.heap.size w ((w.alloc (.cells #[.int .i64 J, .slice A xs.length cap] 31)).alloc (.map #[] 0)) from (below_box _ _).alloc (by simp) _)
  have HM0 := Lib.hid (show ((w.alloc (.cells #[.int .i64 J, .slice A xs.length cap] 31)).alloc (.map #[] 0)).ownsMap (H := Unit) Try.prog 9 (plainElem Try.prog 2) (w.heap.size + 1) 0 (mapD xs 0) from by have h := World.ownsMap_made (H := Unit) (w.alloc (.cells #[.int .i64 J, .slice A xs.length cap] 31)) Try.prog 9 (plainElem Try.prog 2); rwa [World.size_alloc] at h)
  have hmm := @run_makeMap Try.prog
  clear hr hs
  go_enter Try.func55, Try.ntmps55
  go_wp2
  clear hmm
  go_loopw [10] (fun i wr => ∃ k : Nat, k ≤ xs.length ∧ i = .int .i64 k ∧ wr.ownsMap (H := Unit) Try.prog 9 (plainElem Try.prog 2) (w.heap.size + 1) k (mapD xs k) ∧ Below w.heap.size w wr) (fun i wr => xs.length - (intOf i).toNat)
  case atStart => exact ⟨0, by omega, rfl, HM0.out, HB0.out⟩
  case round =>
    obtain ⟨k, hk, rfl, hown, hbel⟩ := hrel
    by_cases hlt : k < xs.length
    · obtain ⟨g, off, rfl, hrg⟩ := HR.out.below hbel k hlt
      obtain ⟨⟨c0, c1, c2, c3⟩, c4, c5, c6⟩ := lay_row hrg
      have hss := HS.out xs[k] (List.getElem_mem hlt)
      have HD := Lib.hid (show (mapD xs (k + 1) : DataW Unit) = (mapD xs k).put (.string xs[k].s.data.toList) (.lit (.int .i64 (k : Int))) by rw [mapD, getD_of_lt hlt])
      generalize xs[k] = a at *
      obtain ⟨s, f, t, l, se, fr, sh⟩ := a
      dsimp only at c0 c1 c2 c3 c4 c5 c6 hss HD
      have HO := Lib.hid hown
      have HBL := Lib.hid hbel
      have hwr : w.heap.size ≤ wr.heap.size := hbel.size
      clear hown hbel hrg
      go_wp2_with (first
        | (at_mapUpdate; refine wpList_mapUpdate_own _ rfl _ _ _ 84 rfl 9 2 (Maps.string_keyed Try.underlying9) Try.underlying84 _ (w.heap.size + 1) k _ rfl (HO.out.alloc _) (by unfold maxLen; omega) _ _ _ rfl rfl (keyS s hss) _ [] (plainElem_int Try.underlying2 (a := (k : Int)) (by simp [Lit.wf, IntKind.min, IntKind.max, IntKind.signed, IntKind.bits]; omega)) ?_))
      intro w2 ho2 hg2
      have HO2 := Lib.hid ho2
      have HB2 := Lib.hid ((HBL.out.alloc HBL.out.size _).grown hg2 (by simp; omega) (fun j hj => by injection hj with hj; omega))
      clear ho2 hg2
      go_wp2
      go_roundw
      case rel => exact ⟨k + 1, by omega, by go_num, by rw [HD.out]; exact HO2.out, HB2.out⟩
      case measure => simp [intOf]; omega
    · obtain rfl : k = xs.length := by omega
      have HO := Lib.hid hown
      have HBL := Lib.hid hbel
      clear hown hbel
      go_wp2
      go_ret
      exact ⟨_, rfl, HO.out, HBL.out⟩
theorem ret_two2 {a b a' b' : Int} (h : a = a') (k : b = b') : Ending.returned (.tuple #[.int .i64 a, .int .i64 b]) = .returned (.tuple #[.int .i64 a', .int .i64 b']) := by rw [h, k]
set_option maxHeartbeats 1000000 in
theorem iAirwayNamed_any (J : Int) (id : ByteArray) (A : Option Addr) (cap : Nat) (xs : List Aw) (w : World) (hid : id.size ≤ maxLen) (hr : AwR w A xs) (hs : ∀ a ∈ xs, a.s.size ≤ maxLen) (hl : xs.length ≤ 1048576) :
    Calls Try.prog 25 #[.agg #[.int .i64 J, .slice A xs.length cap], .string id] w fun e w' => e = .returned (.tuple #[.int .i64 (namA J xs id), .int .i64 (namB J xs id)]) ∧ Below w.heap.size w w' := by
  have HB0 := Lib.hid (below_box w (.cells #[.int .i64 J, .slice A xs.length cap] 31))
  have HR0 := Lib.hid (hr.below HB0.out)
  have HV := Lib.hid (iValidMine_any J A cap xs (w.alloc (.cells #[.int .i64 J, .slice A xs.length cap] 31)) HR0.out hs hl)
  have HS := Lib.hid hs
  clear hr hs
  cases hok : mineOk J xs
  · have HE := Lib.hid (show namA J xs id = 0 ∧ namB J xs id = 1 by simp [namA, namB, hok])
    rw [hok] at HV
    go_enter Try.func25, Try.ntmps25
    go_wp2_with fail
    (with_reducible refine (HV.out).mono ?_)
    rintro e w1 ⟨rfl, hb⟩
    go_wp2
    go_ret2
    exact ⟨ret_two2 HE.out.1.symm HE.out.2.symm, HB0.out.trans (hb.mono (by simp))⟩
  · rw [hok] at HV
    have HOK := Lib.hid hok
    clear hok
    have HLK := Lib.hid (mapD_look (H := Unit) xs id (.lit (.int .i64 0)) xs.length)
    go_enter Try.func25, Try.ntmps25
    go_wp2_with fail
    (with_reducible refine (HV.out).mono ?_)
    rintro e w1 ⟨rfl, hb⟩
    have HB1 := Lib.hid (HB0.out.trans (hb.mono (by simp)))
    have HR1 := Lib.hid (HR0.out.below hb)
    obtain ⟨hc1, hf1⟩ := bcell hb
    have hz1 : w.heap.size < w1.heap.size := Nat.lt_of_lt_of_le (by simp) hb.size
    clear hb
    go_wp2_with fail
    (with_reducible refine (indices_any J A cap xs w1 HR1.out HS.out hl).mono ?_)
    rintro e w2 ⟨b, rfl, hown, hb2⟩
    have HO := Lib.hid hown
    have HB2 := Lib.hid (HB1.out.trans (hb2.mono HB1.out.size))
    clear hown hb2
    by_cases h0 : 0 ≤ lastIx xs id xs.length
    · have HE := Lib.hid (show namA J xs id = lastIx xs id xs.length ∧ namB J xs id = 0 by simp [namA, namB, HOK.out, h0])
      have hhas := HLK.out.1
      rw [decide_eq_true h0] at hhas
      have hat0 := HLK.out.2 h0
      have HH := Lib.hid hhas
      have HA := Lib.hid hat0
      clear hhas hat0 h0
      go_wp2_with (first
        | (at_lookup; refine wpList_lookup_own_ok_int _ rfl _ _ 84 rfl 9 2 .i64 (Maps.string_keyed Try.underlying9) Try.underlying84 Try.underlying2 (zeroI _) b xs.length _ rfl HO.out _ _ rfl (keyS id hid) ?_))
      intro c hat hwc
      rw [HH.out]
      have hce : lastIx xs id xs.length = c := by rw [HA.out] at hat; injection hat with hat; injection hat
      have HCE := Lib.hid hce
      clear hat hwc hce
      go_wp2
      go_ret2
      exact ⟨ret_two2 (by rw [HE.out.1, HCE.out]) HE.out.2.symm, HB2.out⟩
    · have HE := Lib.hid (show namA J xs id = 0 ∧ namB J xs id = 3 by simp [namA, namB, HOK.out, h0])
      have hhas := HLK.out.1
      rw [decide_eq_false h0] at hhas
      have HH := Lib.hid hhas
      clear hhas h0
      go_wp2_with (first
        | (at_lookup; refine wpList_lookup_own_ok_int _ rfl _ _ 84 rfl 9 2 .i64 (Maps.string_keyed Try.underlying9) Try.underlying84 Try.underlying2 (zeroI _) b xs.length _ rfl HO.out _ _ rfl (keyS id hid) ?_))
      intro c hat hwc
      rw [HH.out]
      clear hat hwc
      go_wp2
      go_ret2
      exact ⟨ret_two2 HE.out.1.symm HE.out.2.symm, HB2.out⟩
theorem l04Find_any (b : Nat) (J : Int) (id : ByteArray) (A : Option Addr) (cap : Nat) (xs : List Aw) (w : World) (hA : w.cell? ⟨b, 1, none⟩ = some (.slice A xs.length cap)) (hr : AwR w A xs) (hl : xs.length ≤ 1048576) (hok : mineOk J xs = true) :
    Calls Try.prog 54 #[.pointer (some ⟨b, 0, none⟩), .string id] w fun e w' => e = .returned (.int .i64 (lastIx xs id xs.length)) ∧ w = w' := by
  have HR := Lib.hid hr
  have HOK := Lib.hid hok
  clear hr hok
  go_enter Try.func54, Try.ntmps54
  go_wp2
  go_loop [5] (fun i => ∃ k : Nat, k ≤ xs.length ∧ i = .int .i64 k ∧ Hid (∀ j, j < k → (xs.getD j Aw.none).s.data.toList ≠ id.data.toList)) (fun i => xs.length - (intOf i).toNat)
  case atStart => exact ⟨0, by omega, rfl, Lib.hid (fun j h => absurd h (by omega))⟩
  case round =>
    obtain ⟨k, hk, rfl, HN⟩ := hrel
    by_cases hlt : k < xs.length
    · obtain ⟨g, off, rfl, hrg⟩ := HR.out k hlt
      obtain ⟨⟨c0, c1, c2, c3⟩, c4, c5, c6⟩ := lay_row hrg
      have HX := Lib.hid (getD_of_lt hlt)
      have HAT := Lib.hid (fun e => lastIx_at HOK.out (id := id) hlt e xs.length hlt (Nat.le_refl _))
      generalize xs[k] = a at *
      obtain ⟨s, f, t, l, se, fr, sh⟩ := a
      dsimp only at c0 c1 c2 c3 c4 c5 c6
      clear hrg c1 c2 c3 c4 c5 c6
      by_cases e : s.data.toList = id.data.toList
      · have hq := str_eq e
        have HE := Lib.hid (HAT.out (by rw [HX.out]; exact e))
        clear e
        go_wp2
        go_ret
        exact ⟨ret_int HE.out.symm, rfl⟩
      · obtain ⟨hq, hq2⟩ := str_ne e
        have HN2 := Lib.hid (show (xs.getD k Aw.none).s.data.toList ≠ id.data.toList by rw [HX.out]; exact e)
        clear e
        go_wp2
        go_round
        case rel => exact ⟨k + 1, by omega, by go_num, Lib.hid (fun j hj => by
          rcases Nat.lt_or_ge j k with q | q
          · exact HN.out j q
          · obtain rfl : j = k := by omega
            exact HN2.out)⟩
        case measure => simp [intOf]; omega
    · obtain rfl : k = xs.length := by omega
      have HE := Lib.hid (lastIx_neg (id := id) xs.length (fun j h => HN.out j h))
      go_wp2
      go_ret
      exact ⟨ret_int HE.out.symm, rfl⟩
set_option maxHeartbeats 1000000 in
theorem sAirwayNamed_any (J : Int) (id : ByteArray) (A : Option Addr) (cap : Nat) (xs : List Aw) (w : World) (hr : AwR w A xs) (hs : ∀ a ∈ xs, a.s.size ≤ maxLen) (hl : xs.length ≤ 1048576) :
    Calls Try.prog 24 #[.agg #[.int .i64 J, .slice A xs.length cap], .string id] w fun e w' => e = .returned (.tuple #[.int .i64 (namA J xs id), .int .i64 (namB J xs id)]) ∧ Below w.heap.size w w' := by
  have HB0 := Lib.hid (below_box w (.cells #[.int .i64 J, .slice A xs.length cap] 31))
  have HR0 := Lib.hid (hr.below HB0.out)
  have HV := Lib.hid (l04Ok_any w.heap.size J A cap xs (w.alloc (.cells #[.int .i64 J, .slice A xs.length cap] 31)) (by simp) (by simp) HR0.out hs hl)
  clear hr hs
  cases hok : mineOk J xs
  · have HE := Lib.hid (show namA J xs id = 0 ∧ namB J xs id = 1 by simp [namA, namB, hok])
    rw [hok] at HV
    go_enter Try.func24, Try.ntmps24
    go_wp2_with fail
    (with_reducible refine (HV.out).mono ?_)
    rintro e w1 ⟨rfl, n, rfl⟩
    go_wp2
    go_ret2
    exact ⟨ret_two2 HE.out.1.symm HE.out.2.symm, below_drewN' HB0.out n⟩
  · rw [hok] at HV
    have HOK := Lib.hid hok
    have hE := And.intro (show namA J xs id = if 0 ≤ lastIx xs id xs.length then lastIx xs id xs.length else 0 by simp [namA, hok]) (show namB J xs id = if 0 ≤ lastIx xs id xs.length then 0 else 3 by simp [namB, hok])
    have hm0 : (w.alloc (.cells #[.int .i64 J, .slice A xs.length cap] 31)).cell? ⟨w.heap.size, 1, none⟩ = some (.slice A xs.length cap) := by simp
    have HF := Lib.hid (fun n => l04Find_any w.heap.size J id A cap xs ((w.alloc (.cells #[.int .i64 J, .slice A xs.length cap] 31)).drewN n) hm0 (HR0.out.drewN n) hl HOK.out)
    have hbd := lastIx_bd xs id xs.length
    clear hok hm0
    generalize lastIx xs id xs.length = ix at *
    obtain ⟨hi1, hi2⟩ := hbd
    by_cases h0 : 0 ≤ ix
    · rw [if_pos h0, if_pos h0] at hE
      have HE := Lib.hid hE
      have h1 : ¬ ix < 0 := by omega
      clear hE
      go_enter Try.func24, Try.ntmps24
      go_wp2_with fail
      (with_reducible refine (HV.out).mono ?_)
      rintro e w1 ⟨rfl, n, rfl⟩
      go_wp2_with fail
      (with_reducible refine (HF.out n).mono ?_)
      rintro e w' ⟨rfl, rfl⟩
      go_wp2
      go_ret2
      exact ⟨ret_two2 HE.out.1.symm HE.out.2.symm, below_drewN' HB0.out n⟩
    · rw [if_neg h0, if_neg h0] at hE
      have HE := Lib.hid hE
      have h1 : ix < 0 := by omega
      clear hE h0
      go_enter Try.func24, Try.ntmps24
      go_wp2_with fail
      (with_reducible refine (HV.out).mono ?_)
      rintro e w1 ⟨rfl, n, rfl⟩
      go_wp2_with fail
      (with_reducible refine (HF.out n).mono ?_)
      rintro e w' ⟨rfl, rfl⟩
      go_wp2
      go_ret2
      exact ⟨ret_two2 HE.out.1.symm HE.out.2.symm, below_drewN' HB0.out n⟩
end Go.Proofs.Ytofpecgmnodflaa
