/-
  Contracts of chapter 4: spanning forests; the program's. Conditions: those that each theorem states.
-/
import Derived.Test.YtpojacacpbpehaaUe
import Derived.Test.YtpojacacpbpehaaRg
namespace Go.Proofs.Ytpojacacpbpehaa
open Go.RowKit
set_option linter.unusedVariables false
set_option linter.unusedSimpArgs false

/-- What a map of Bools holds at the numbers below n. -/
def MapB {H : Type} (m : DataW H) (p : Nat → Bool) (n : Nat) : Prop :=
  Maps.IsMap m ∧ ∀ (k : Nat) (z : DataW H), k < n → m.atKey (.int .i64 (k : Int)) z = .lit (.bool (p k))
theorem MapB.empty {H : Type} (p : Nat → Bool) : MapB (H := H) (.map []) p 0 := ⟨⟨[], rfl⟩, fun k z h => absurd h (by omega)⟩
theorem MapB.put {H : Type} {m : DataW H} {p : Nat → Bool} {n : Nat} (h : MapB m p n) : MapB (m.put (.int .i64 (n : Int)) (.lit (.bool (p n)))) p (n + 1) := by
  refine ⟨h.1.put _ _, fun k z hk => ?_⟩
  by_cases e : k = n
  · subst e
    exact Maps.atKey_put_same h.1 (by trivial) _ _
  · have hne : (Lit.int .i64 (k : Int)) ≠ Lit.int .i64 (n : Int) := fun h => e (by injection h with _ h; omega)
    rw [Maps.atKey_put_other hne]
    exact h.2 k z (by omega)
theorem ownsMap_below {w w' : World} {k : TypeId} {R : Value → Option (DataW Unit × List MemPlace)} {b n : Nat} {D : DataW Unit} (h : w.ownsMap Try.prog k R b n D) (hb : Below w.heap.size w w') : w'.ownsMap Try.prog k R b n D :=
  h.kept (row := none) ⟨hb.os, hb.tape, hb.output, hb.size, fun i hi _ => hb.block i hi⟩ (by simp)
theorem zeroBU (w : World) : (zeroValue 4).run Try.prog w = .ok (.bool false) w := by kernel_rfl
set_option maxRecDepth 100000 in
theorem look_bool (b c k : Nat) (m : DataW Unit) (p : Nat → Bool) (n : Nat) (W : World) (hm : MapB m p n) (hown : W.ownsMap (H := Unit) Try.prog 2 (plainElem Try.prog 4) b c m) (hk : k < n) (hn : n ≤ 1000) :
    (Instr.lookup 66 (.map (some b)) (.int .i64 (k : Int)) false).run Try.prog W = .ok (.bool (p k)) W := by
  obtain ⟨v, ps, h1, h2⟩ := hown.lookup (Maps.int_keyed Try.underlying2) Try.underlying66 (zeroBU W) (plainElem_bool Try.underlying4 false) (keyIU (k : Int) (wfU (by omega)))
  rw [hm.2 k _ hk] at h2
  unfold plainElem at h2
  rw [Try.underlying4] at h2
  cases v <;> simp at h2
  rw [h1, h2.1]
set_option maxRecDepth 100000 in
theorem isOpenU_any (J : Int) (A : Option Addr) (n cap b c k : Nat) (m : DataW Unit) (p : Nat → Bool) (w : World) (hm : MapB m p n) (hown : w.ownsMap (H := Unit) Try.prog 2 (plainElem Try.prog 4) b c m) (hk : k < n) (hn : n ≤ 1000) :
    Calls Try.prog 45 #[.agg #[.int .i64 J, .slice A n cap, .map (some b)], .int .i64 (k : Int)] w fun e w' => e = .returned (.bool (!(p k))) ∧ Below w.heap.size w w' := by
  have hrun := look_bool b c k m p n (w.alloc (.cells #[.int .i64 J, .slice A n cap, .map (some b)] 68)) hm (hown.alloc _) hk hn
  go_enter Try.func45, Try.ntmps45
  go_wp2
  go_ret
  exact ⟨by first | rfl | simp, below_box _ _⟩
set_option maxHeartbeats 2000000 in
set_option maxRecDepth 100000 in
theorem thatOpen (p : Nat → Bool) (J : Int) (A : Option Addr) (n cap b : Nat) (w : World) (hn : n ≤ 1048576)
    (hf : ∀ (k : Nat) (w1 : World), k < n → Below w.heap.size w w1 → Calls Try.prog 45 #[.agg #[.int .i64 J, .slice A n cap, .map (some b)], .int .i64 (k : Int)] w1 fun e w2 => e = .returned (.bool (p k)) ∧ Below w1.heap.size w1 w2) :
    Calls Try.prog 43 #[.agg #[.int .i64 J, .slice A n cap], .func (.func 45) #[.agg #[.int .i64 J, .slice A n cap, .map (some b)]] #[]] w fun e w' => ∃ v, e = .returned v ∧ OwnI w' w.heap.size v (ixT p n) ∧ Below w.heap.size w w' := by
  have HF := Lib.hid hf
  obtain ⟨i0, hi, hz0, hz1, hz2⟩ := info_parts info_i64
  have HB0 := Lib.hid (below_box w (.cells #[.int .i64 J, .slice A n cap] 31))
  clear hf
  go_enter Try.func43, Try.ntmps43
  go_wp2
  go_loopw [5, 10] (fun out i wr => ∃ k : Nat, k ≤ n ∧ i = .int .i64 k ∧ wr.ownsRow w.heap.size 2 1 out (ixT p k).length (intsV (ixT p k)) ∧ Below w.heap.size w wr) (fun out i wr => n - (intOf i).toNat)
  case atStart => exact ⟨0, by omega, rfl, World.ownsRow_nil _ _ _ _, HB0.out⟩
  case round =>
    obtain ⟨k, hk, rfl, hown, hbel⟩ := hrel
    by_cases hlt : k < n
    · have HX := Lib.hid (HF.out k wr hlt hbel)
      have hll := ixT_len p k
      have HO := Lib.hid hown
      have HBL := Lib.hid hbel
      have hwr : w.heap.size ≤ wr.heap.size := hbel.size
      clear hown hbel
      cases he : p k
      · rw [he] at HX
        have HN := Lib.hid (ixT_no he)
        clear he
        go_wp2_with fail
        (with_reducible refine (HX.out).mono ?_)
        rintro e w2 ⟨rfl, hb2⟩
        have HO2 := Lib.hid (own_below HO.out hb2)
        have HB2 := Lib.hid (HBL.out.trans (hb2.mono HBL.out.size))
        clear hb2
        go_wp2
        go_roundw
        case rel => exact ⟨k + 1, by omega, by go_num, by rw [HN.out]; exact HO2.out, HB2.out⟩
        case measure => simp [intOf]; omega
      · rw [he] at HX
        have HN := Lib.hid (ixT_yes he)
        clear he
        go_wp2_with fail
        (with_reducible refine (HX.out).mono ?_)
        rintro e w2 ⟨rfl, hb2⟩
        have HO2 := Lib.hid (own_below HO.out hb2)
        have HB2 := Lib.hid (HBL.out.trans (hb2.mono HBL.out.size))
        have hw2 : w.heap.size ≤ w2.heap.size := HB2.out.size
        clear hb2
        go_wp2_with (first
          | (at_builtin; refine wpList_append_own_at _ rfl _ _ 26 rfl w.heap.size 2 i0 (.int .i64 0) 1 8 Try.underlying26 hi hz0 hz1 hz2 rfl (by decide) _ _ _ rfl (HO2.out.alloc _) ⟨w2.heap.size, 0, none⟩ 1 1 [.int .i64 (k)] rfl rfl ?c1z ?c2z ?c3z ?c4z ?c5z ?_))
        case c1z => intro j u hj; match j, hj with | 0, hj => (simp at hj; subst hj; simp [Addr.add]) | j + 1, hj => (simp at hj)
        case c2z => simp [Value.oneCell']
        case c3z => unfold maxLen; omega
        case c4z => omega
        case c5z => (simp; omega)
        intro v3 w3 ho3 hg3 _ hl3
        have HO3 := Lib.hid ho3
        have HB3 := Lib.hid ((HB2.out.alloc HB2.out.size _).grown hg3 (by simp; omega) (fun k hk => (HO2.out.lt k hk).1))
        clear ho3 hg3 hl3
        go_wp2
        go_roundw
        case rel => exact ⟨k + 1, by omega, by go_num, by rw [HN.out, ints_snocY, List.length_append]; exact HO3.out, HB3.out⟩
        case measure => simp [intOf]; omega
    · obtain rfl : k = n := by omega
      have HO := Lib.hid hown
      have HBL := Lib.hid hbel
      clear hown hbel
      go_wp2
      go_ret
      exact ⟨_, rfl, HO.out, HBL.out⟩
set_option maxHeartbeats 4000000 in
set_option maxRecDepth 100000 in
theorem treeOnly_any (Jn : Nat) (A : Option Addr) (cap : Nat) (xs : List Aw) (w : World) (hr : AwR w A xs) (hok : mineOk (Jn : Int) xs = true) :
    Calls Try.prog 44 #[.agg #[.int .i64 (Jn : Int), .slice A xs.length cap]] w fun e w' => ∃ (b c : Nat) (m : DataW Unit), e = .returned (.agg #[.int .i64 (Jn : Int), .slice A xs.length cap, .map (some b)]) ∧ MapB m (fun k => !(treeP xs k)) xs.length ∧ w'.ownsMap (H := Unit) Try.prog 2 (plainElem Try.prog 4) b c m ∧ Below w.heap.size w w' := by
  obtain ⟨hj, -, hn⟩ := mineOk_iff.1 hok
  have HR := Lib.hid hr
  have HOK := Lib.hid hok
  have HNN := Lib.hid (fun k => es2_nn hok k)
  have hmm := @run_makeMap Try.prog
  clear hr hok
  go_enter Try.func44, Try.ntmps44
  have HKA := Lib.hid (show (((w.alloc (.cells #[.int .i64 (Jn : Int), .slice A xs.length cap] 31)).alloc (.cells #[.int .i64 0, .slice none 0 0, .map none] 68)).cell? ⟨w.heap.size, 0, none⟩ = some (.int .i64 (Jn : Int)) ∧ ((w.alloc (.cells #[.int .i64 (Jn : Int), .slice A xs.length cap] 31)).alloc (.cells #[.int .i64 0, .slice none 0 0, .map none] 68)).cell? ⟨w.heap.size, 1, none⟩ = some (.slice A xs.length cap)) ∧ (((w.alloc (.cells #[.int .i64 (Jn : Int), .slice A xs.length cap] 31)).alloc (.cells #[.int .i64 0, .slice none 0 0, .map none] 68)).cell? ⟨w.heap.size + 1, 0, none⟩ = some (.int .i64 0) ∧ ((w.alloc (.cells #[.int .i64 (Jn : Int), .slice A xs.length cap] 31)).alloc (.cells #[.int .i64 0, .slice none 0 0, .map none] 68)).cell? ⟨w.heap.size + 1, 1, none⟩ = some (.slice none 0 0) ∧ ((w.alloc (.cells #[.int .i64 (Jn : Int), .slice A xs.length cap] 31)).alloc (.cells #[.int .i64 0, .slice none 0 0, .map none] 68)).cell? ⟨w.heap.size + 1, 2, none⟩ = some (.map none)) ∧ ((w.alloc (.cells #[.int .i64 (Jn : Int), .slice A xs.length cap] 31)).alloc (.cells #[.int .i64 0, .slice none 0 0, .map none] 68)).frozen? ⟨w.heap.size + 1, 0, none⟩ = false ∧ ((w.alloc (.cells #[.int .i64 (Jn : Int), .slice A xs.length cap] 31)).alloc (.cells #[.int .i64 0, .slice none 0 0, .map none] 68)).frozen? ⟨w.heap.size + 1, 1, none⟩ = false ∧ ((w.alloc (.cells #[.int .i64 (Jn : Int), .slice A xs.length cap] 31)).alloc (.cells #[.int .i64 0, .slice none 0 0, .map none] 68)).frozen? ⟨w.heap.size + 1, 2, none⟩ = false from ⟨⟨by simp, by simp⟩, ⟨by simp, by simp, by simp⟩, by simp, by simp, by simp⟩)
  have HB2 := Lib.hid (show Below w.heap.size w ((w.alloc (.cells #[.int .i64 (Jn : Int), .slice A xs.length cap] 31)).alloc (.cells #[.int .i64 0, .slice none 0 0, .map none] 68)) from (below_box _ _).alloc (by simp) _)
  have hs2 : ((w.alloc (.cells #[.int .i64 (Jn : Int), .slice A xs.length cap] 31)).alloc (.cells #[.int .i64 0, .slice none 0 0, .map none] 68)).heap.size = w.heap.size + 1 + 1 := by simp
  go_wp2_with fail
  clear hmm
  generalize ((w.alloc (.cells #[.int .i64 (Jn : Int), .slice A xs.length cap] 31)).alloc (.cells #[.int .i64 0, .slice none 0 0, .map none] 68)) = WB at *
  have HMC := Lib.hid (show ((WB.alloc (.map #[] 0)).alloc (.map #[] 0)).ownsMap (H := Unit) Try.prog 2 (plainElem Try.prog 4) (w.heap.size + 1 + 1) 0 (.map []) from by
    have h := World.ownsMap_made (H := Unit) WB Try.prog 2 (plainElem Try.prog 4)
    rw [hs2] at h
    exact h.alloc _)
  have HMG := Lib.hid (show ((WB.alloc (.map #[] 0)).alloc (.map #[] 0)).ownsMap (H := Unit) Try.prog 2 (plainElem Try.prog 2) (w.heap.size + 1 + 1 + 1) 0 (.map []) from by
    have h := World.ownsMap_made (H := Unit) (WB.alloc (.map #[] 0)) Try.prog 2 (plainElem Try.prog 2)
    rw [World.size_alloc, hs2] at h
    exact h)
  have HBA := Lib.hid (show Below WB.heap.size WB ((WB.alloc (.map #[] 0)).alloc (.map #[] 0)) from (below_box _ _).alloc (by simp) _)
  have hzw : w.heap.size + 1 < WB.heap.size := by omega
  go_loopw [12] (fun i wr => ∃ (k ng : Nat) (mg mc : DataW Unit), k ≤ xs.length ∧ i = .int .i64 k ∧ ng ≤ k ∧ Hid (MapF mg (joinsF (es2 xs k))) ∧ Hid (wr.ownsMap (H := Unit) Try.prog 2 (plainElem Try.prog 2) (w.heap.size + 1 + 1 + 1) ng mg) ∧ Hid (MapB mc (fun k => !(treeP xs k)) k) ∧ Hid (wr.ownsMap (H := Unit) Try.prog 2 (plainElem Try.prog 4) (w.heap.size + 1 + 1) k mc) ∧ Hid (Below WB.heap.size WB wr)) (fun i wr => xs.length - (intOf i).toNat)
  case atStart => exact ⟨0, 0, _, _, by omega, rfl, by omega, MapF.empty, HMG, MapB.empty _, HMC, HBA⟩
  case round =>
    obtain ⟨k, ng, mg, mc, hk, rfl, hng, HF, HOG, HC, HOC, HB⟩ := hrel
    obtain ⟨wo, rfl⟩ : ∃ wo : World, wo = wr := ⟨_, rfl⟩
    have hzo := HB.out.size
    have HJF := Lib.hid (joinsF_falls (es2 xs k) (HNN.out k))
    have HBW := Lib.hid (HB2.out.trans (HB.out.mono (by omega)))
    by_cases hlt : k < xs.length
    · obtain ⟨g, off, rfl, hrg⟩ := HR.out.below HBW.out k hlt
      obtain ⟨⟨d0, d1, d2, d3⟩, d4, d5, d6⟩ := lay_row hrg
      have hen := ends_inU HOK.out hlt
      have HES := Lib.hid (show joinsF (es2 xs (k + 1)) = joinF (joinsF (es2 xs k)) xs[k].f xs[k].t by rw [es2_snoc hlt]; rfl)
      have HTP := Lib.hid (show (!(decide (root (joinsF (es2 xs k)) xs[k].f = root (joinsF (es2 xs k)) xs[k].t))) = treeP xs k by
        unfold treeP
        rw [getD_of_lt hlt, root_joins _ (HNN.out k)])
      have HCP := Lib.hid (HC.out.put)
      generalize xs[k] = a at *
      obtain ⟨sa, f, t, l, se, fr, sh⟩ := a
      dsimp only at d0 d1 d2 d3 d4 d5 d6 hen HES HTP
      clear hrg
      obtain ⟨fn, rfl⟩ : ∃ fn : Nat, f = fn := ⟨f.toNat, by omega⟩
      obtain ⟨tn, rfl⟩ : ∃ tn : Nat, t = tn := ⟨t.toNat, by omega⟩
      have HBX := Lib.hid (show Below WB.heap.size WB (wo.alloc (.cells #[.string sa, .int .i64 (fn : Int), .int .i64 (tn : Int), .int .i64 l, .int .i64 se, .int .i64 fr, .int .i64 sh] 58)) from HB.out.alloc hzo _)
      have HOG2 := Lib.hid (show (wo.alloc (.cells #[.string sa, .int .i64 (fn : Int), .int .i64 (tn : Int), .int .i64 l, .int .i64 se, .int .i64 fr, .int .i64 sh] 58)).ownsMap (H := Unit) Try.prog 2 (plainElem Try.prog 2) (w.heap.size + 1 + 1 + 1) ng mg from HOG.out.alloc _)
      have HOC2 := Lib.hid (show (wo.alloc (.cells #[.string sa, .int .i64 (fn : Int), .int .i64 (tn : Int), .int .i64 l, .int .i64 se, .int .i64 fr, .int .i64 sh] 58)).ownsMap (H := Unit) Try.prog 2 (plainElem Try.prog 4) (w.heap.size + 1 + 1) k mc from HOC.out.alloc _)
      have hzx := HBX.out.size
      have hne : some (w.heap.size + 1 + 1) ≠ some (w.heap.size + 1 + 1 + 1) := fun h => by injection h with h; omega
      generalize htp : treeP xs k = tp at *
      go_wp2_with (first
        | (go_at_call 38; refine (gJoin_any (w.heap.size + 1 + 1 + 1) ng mg (joinsF (es2 xs k)) fn tn _ HF.out HJF.out HOG2.out (by omega) (by omega) (by omega)).mono ?_; rintro e w3 ⟨rfl, m3, n3, hn3, hm3, ho3, hg3⟩; rw [HTP.out]; have HM3 := Lib.hid hm3; have HO3 := Lib.hid ho3; have HC3 := Lib.hid (HOC2.out.kept hg3 hne); have HB3 := Lib.hid (HBX.out.grown hg3 hzx (fun j hj => by injection hj with hj; omega)); clear hm3 ho3 hg3)
        | (at_mapUpdate; refine wpList_mapUpdate_own _ rfl _ _ _ 66 rfl 2 4 (Maps.int_keyed Try.underlying2) Try.underlying66 _ (w.heap.size + 1 + 1) k _ rfl HC3.out (by unfold maxLen; omega) _ _ _ rfl rfl (keyIU (k : Int) (wfU (by omega))) _ [] (plainElem_bool Try.underlying4 (!tp)) ?_))
      intro w4 ho4 hg4
      have hz3 := HB3.out.size
      have HO4 := Lib.hid ho4
      have HG4 := Lib.hid (HO3.out.kept hg4 (fun h => hne h.symm))
      have HB4 := Lib.hid (HB3.out.grown hg4 hz3 (fun j hj => by injection hj with hj; omega))
      clear ho4 hg4
      go_wp2
      go_roundw
      case rel => exact ⟨k + 1, n3, m3, _, by omega, by go_num, by omega, by rw [HES.out]; exact HM3, HG4, HCP, HO4, HB4⟩
      case measure => simp [intOf]; omega
    · obtain rfl : k = xs.length := by omega
      obtain ⟨⟨k0, k1⟩, ⟨k2, k3, k4⟩, k5, k6, k7⟩ := HKA.out
      have m0 := (HB.out.cell (p := ⟨w.heap.size, 0, none⟩) (by show w.heap.size < WB.heap.size; omega)).trans k0
      have m1 := (HB.out.cell (p := ⟨w.heap.size, 1, none⟩) (by show w.heap.size < WB.heap.size; omega)).trans k1
      have m2 := (HB.out.cell (p := ⟨w.heap.size + 1, 0, none⟩) hzw).trans k2
      have m3 := (HB.out.cell (p := ⟨w.heap.size + 1, 1, none⟩) hzw).trans k3
      have m4 := (HB.out.cell (p := ⟨w.heap.size + 1, 2, none⟩) hzw).trans k4
      have m5 := (HB.out.frozen (p := ⟨w.heap.size + 1, 0, none⟩) hzw).trans k5
      have m6 := (HB.out.frozen (p := ⟨w.heap.size + 1, 1, none⟩) hzw).trans k6
      have m7 := (HB.out.frozen (p := ⟨w.heap.size + 1, 2, none⟩) hzw).trans k7
      clear k0 k1 k2 k3 k4 k5 k6 k7
      have n01 : (⟨w.heap.size + 1, 0, none⟩ : Addr) ≠ ⟨w.heap.size + 1, 1, none⟩ := by simp
      have n02 : (⟨w.heap.size + 1, 0, none⟩ : Addr) ≠ ⟨w.heap.size + 1, 2, none⟩ := by simp
      have n12 : (⟨w.heap.size + 1, 1, none⟩ : Addr) ≠ ⟨w.heap.size + 1, 2, none⟩ := by simp
      go_wp2
      have f0 : (((wo.setCell ⟨w.heap.size + 1, 0, none⟩ (.int .i64 (Jn : Int))).setCell ⟨w.heap.size + 1, 1, none⟩ (.slice A xs.length cap)).setCell ⟨w.heap.size + 1, 2, none⟩ (.map (some (w.heap.size + 1 + 1)))).cell? ⟨w.heap.size + 1, 0, none⟩ = some (.int .i64 (Jn : Int)) :=
        (World.cell?_setCell_other _ _ _ _ n02.symm).trans ((World.cell?_setCell_other _ _ _ _ n01.symm).trans (World.cell?_setCell_same _ _ _ m2))
      have f1 : (((wo.setCell ⟨w.heap.size + 1, 0, none⟩ (.int .i64 (Jn : Int))).setCell ⟨w.heap.size + 1, 1, none⟩ (.slice A xs.length cap)).setCell ⟨w.heap.size + 1, 2, none⟩ (.map (some (w.heap.size + 1 + 1)))).cell? ⟨w.heap.size + 1, 1, none⟩ = some (.slice A xs.length cap) :=
        (World.cell?_setCell_other _ _ _ _ n12.symm).trans (World.cell?_setCell_same _ _ _ ((World.cell?_setCell_other _ _ _ _ n01).trans m3))
      have f2 : (((wo.setCell ⟨w.heap.size + 1, 0, none⟩ (.int .i64 (Jn : Int))).setCell ⟨w.heap.size + 1, 1, none⟩ (.slice A xs.length cap)).setCell ⟨w.heap.size + 1, 2, none⟩ (.map (some (w.heap.size + 1 + 1)))).cell? ⟨w.heap.size + 1, 2, none⟩ = some (.map (some (w.heap.size + 1 + 1))) :=
        World.cell?_setCell_same _ _ _ ((World.cell?_setCell_other _ _ _ _ n12).trans ((World.cell?_setCell_other _ _ _ _ n02).trans m4))
      have hnb : w.heap.size + 1 + 1 ≠ w.heap.size + 1 := by omega
      have HOF := Lib.hid (((HOC.out.setCell (a := ⟨w.heap.size + 1, 0, none⟩) hnb (.int .i64 (Jn : Int))).setCell (a := ⟨w.heap.size + 1, 1, none⟩) hnb (.slice A xs.length cap)).setCell (a := ⟨w.heap.size + 1, 2, none⟩) hnb (.map (some (w.heap.size + 1 + 1))))
      have HBF := Lib.hid (((HBW.out.setCell (p := ⟨w.heap.size + 1, 0, none⟩) (by show w.heap.size ≤ w.heap.size + 1; omega) (.int .i64 (Jn : Int))).setCell (p := ⟨w.heap.size + 1, 1, none⟩) (by show w.heap.size ≤ w.heap.size + 1; omega) (.slice A xs.length cap)).setCell (p := ⟨w.heap.size + 1, 2, none⟩) (by show w.heap.size ≤ w.heap.size + 1; omega) (.map (some (w.heap.size + 1 + 1))))
      refine bodyPost_ret (v := .agg #[.int .i64 (Jn : Int), .slice A xs.length cap, .map (some (w.heap.size + 1 + 1))]) (by simp [results, Try.results44, go_sem, f0, f1, f2]) rfl ⟨_, _, _, rfl, HC.out, HOF.out, HBF.out⟩
theorem ret_vt {v : Value} {b b' : Int} (h : b = b') : Ending.returned (.tuple #[v, .int .i64 b]) = .returned (.tuple #[v, .int .i64 b']) := by rw [h]
set_option maxHeartbeats 1000000 in
set_option maxRecDepth 100000 in
theorem sTreeOf_any (J : Int) (A : Option Addr) (cap : Nat) (xs : List Aw) (w : World) (hr : AwR w A xs) (hs : ∀ a ∈ xs, a.s.size ≤ maxLen) (hl : xs.length ≤ 1048576) :
    Calls Try.prog 18 #[.agg #[.int .i64 J, .slice A xs.length cap]] w fun e w' => ∃ v, e = .returned (.tuple #[v, .int .i64 (paB J xs)]) ∧ OwnI w' w.heap.size v (trR J xs) ∧ Below w.heap.size w w' := by
  have HB0 := Lib.hid (below_box w (.cells #[.int .i64 J, .slice A xs.length cap] 31))
  have HOKC := Lib.hid (l04Ok_any w.heap.size J A cap xs (w.alloc (.cells #[.int .i64 J, .slice A xs.length cap] 31)) (by simp) (by simp) (hr.below HB0.out) hs hl)
  have HK := Lib.hid (show (w.alloc (.cells #[.int .i64 J, .slice A xs.length cap] 31)).cell? ⟨w.heap.size, 0, none⟩ = some (.int .i64 J) ∧ (w.alloc (.cells #[.int .i64 J, .slice A xs.length cap] 31)).cell? ⟨w.heap.size, 1, none⟩ = some (.slice A xs.length cap) ∧ AwR (w.alloc (.cells #[.int .i64 J, .slice A xs.length cap] 31)) A xs from ⟨by simp, by simp, hr.below HB0.out⟩)
  clear hr hs
  cases hok : mineOk J xs
  · have HE := Lib.hid (show paB J xs = 1 ∧ trR J xs = [] by simp [paB, trR, hok])
    go_enter Try.func18, Try.ntmps18
    go_wp2_with fail
    (with_reducible refine (HOKC.out).mono ?_)
    rintro e w1 ⟨rfl, n, rfl⟩
    rw [hok]
    have HK1 := Lib.hid (show ((w.alloc (.cells #[.int .i64 J, .slice A xs.length cap] 31)).drewN n).cell? ⟨w.heap.size, 0, none⟩ = some (.int .i64 J) ∧ ((w.alloc (.cells #[.int .i64 J, .slice A xs.length cap] 31)).drewN n).cell? ⟨w.heap.size, 1, none⟩ = some (.slice A xs.length cap) ∧ AwR ((w.alloc (.cells #[.int .i64 J, .slice A xs.length cap] 31)).drewN n) A xs from HK.out)
    have HB1 := Lib.hid (show Below w.heap.size w ((w.alloc (.cells #[.int .i64 J, .slice A xs.length cap] 31)).drewN n) from below_drewN' HB0.out n)
    generalize (w.alloc (.cells #[.int .i64 J, .slice A xs.length cap] 31)).drewN n = W1 at *
    go_wp2
    go_ret2
    exact ⟨_, ret_vt HE.out.1.symm, by rw [HE.out.2]; exact own_nilp _ _, HB1.out⟩
  · obtain ⟨hj, -, h24⟩ := mineOk_iff.1 hok
    obtain ⟨Jn, rfl⟩ : ∃ Jn : Nat, J = Jn := ⟨J.toNat, by omega⟩
    have HOK := Lib.hid hok
    have HE := Lib.hid (show paB (Jn : Int) xs = 0 ∧ trR (Jn : Int) xs = treeL xs xs.length by simp [paB, trR, hok])
    go_enter Try.func18, Try.ntmps18
    go_wp2_with fail
    (with_reducible refine (HOKC.out).mono ?_)
    rintro e w1 ⟨rfl, n, rfl⟩
    rw [hok]
    have HK1 := Lib.hid (show ((w.alloc (.cells #[.int .i64 (Jn : Int), .slice A xs.length cap] 31)).drewN n).cell? ⟨w.heap.size, 0, none⟩ = some (.int .i64 (Jn : Int)) ∧ ((w.alloc (.cells #[.int .i64 (Jn : Int), .slice A xs.length cap] 31)).drewN n).cell? ⟨w.heap.size, 1, none⟩ = some (.slice A xs.length cap) ∧ AwR ((w.alloc (.cells #[.int .i64 (Jn : Int), .slice A xs.length cap] 31)).drewN n) A xs from HK.out)
    have HB1 := Lib.hid (show Below w.heap.size w ((w.alloc (.cells #[.int .i64 (Jn : Int), .slice A xs.length cap] 31)).drewN n) from below_drewN' HB0.out n)
    generalize (w.alloc (.cells #[.int .i64 (Jn : Int), .slice A xs.length cap] 31)).drewN n = W1 at *
    go_wp2_with (go_at_call 42; refine (l04Tree_any w.heap.size cap Jn A xs _ HK1.out.1 HK1.out.2.1 HK1.out.2.2 HOK.out).mono ?_; rintro e w2 ⟨u, rfl, ho, hd2⟩; have HO2 := Lib.hid ho; have HB2 := Lib.hid hd2; clear ho hd2)
    go_ret2
    exact ⟨_, ret_vt HE.out.1.symm, by rw [HE.out.2]; exact own_lep HO2.out HB1.out.size, HB1.out.trans (HB2.out.mono HB1.out.size)⟩
set_option maxHeartbeats 4000000 in
set_option maxRecDepth 100000 in
theorem iTreeOf_any (J : Int) (A : Option Addr) (cap : Nat) (xs : List Aw) (w : World) (hr : AwR w A xs) (hs : ∀ a ∈ xs, a.s.size ≤ maxLen) (hl : xs.length ≤ 1048576) :
    Calls Try.prog 19 #[.agg #[.int .i64 J, .slice A xs.length cap]] w fun e w' => ∃ v, e = .returned (.tuple #[v, .int .i64 (paB J xs)]) ∧ OwnI w' w.heap.size v (trR J xs) ∧ Below w.heap.size w w' := by
  have HB0 := Lib.hid (below_box w (.cells #[.int .i64 J, .slice A xs.length cap] 31))
  have HK0 := Lib.hid (show (w.alloc (.cells #[.int .i64 J, .slice A xs.length cap] 31)).cell? ⟨w.heap.size, 0, none⟩ = some (.int .i64 J) ∧ (w.alloc (.cells #[.int .i64 J, .slice A xs.length cap] 31)).cell? ⟨w.heap.size, 1, none⟩ = some (.slice A xs.length cap) ∧ AwR (w.alloc (.cells #[.int .i64 J, .slice A xs.length cap] 31)) A xs from ⟨by simp, by simp, hr.below HB0.out⟩)
  have HS0 := Lib.hid hs
  have c0 := HK0.out.1
  have c1 := HK0.out.2.1
  clear hr hs
  cases hok : mineOk J xs
  · have HE := Lib.hid (show paB J xs = 1 ∧ trR J xs = [] by simp [paB, trR, hok])
    go_enter Try.func19, Try.ntmps19
    go_wp2_with (go_at_call 37; refine (iValidMine_any J A cap xs _ HK0.out.2.2 HS0.out hl).mono ?_; rintro e w1 ⟨rfl, hd1⟩; rw [hok]; have HB1 := Lib.hid (HB0.out.trans (hd1.mono HB0.out.size)); have HK1 := Lib.hid (show w1.cell? ⟨w.heap.size, 0, none⟩ = some (.int .i64 J) ∧ w1.cell? ⟨w.heap.size, 1, none⟩ = some (.slice A xs.length cap) ∧ AwR w1 A xs from ⟨cell_keep HK0.out.1 hd1, cell_keep HK0.out.2.1 hd1, HK0.out.2.2.below hd1⟩); have c0_1 := HK1.out.1; have c1_1 := HK1.out.2.1; have hw1 : w.heap.size < w1.heap.size := World.block_lt_of_cell? _ _ HK1.out.1; have c1_2 := (World.cell?_alloc_past (.map #[] 0) w.heap.size 1 hw1).trans HK1.out.2.1; clear hd1)
    go_ret2
    exact ⟨_, ret_vt HE.out.1.symm, by rw [HE.out.2]; exact own_nilp _ _, HB1.out⟩
  · obtain ⟨hj, -, h24⟩ := mineOk_iff.1 hok
    obtain ⟨Jn, rfl⟩ : ∃ Jn : Nat, J = Jn := ⟨J.toNat, by omega⟩
    have HOK := Lib.hid hok
    have HE := Lib.hid (show paB (Jn : Int) xs = 0 ∧ trR (Jn : Int) xs = treeL xs xs.length by simp [paB, trR, hok])
    go_enter Try.func19, Try.ntmps19
    go_wp2_with (go_at_call 37; refine (iValidMine_any _ A cap xs _ HK0.out.2.2 HS0.out hl).mono ?_; rintro e w1 ⟨rfl, hd1⟩; rw [hok]; have HB1 := Lib.hid (HB0.out.trans (hd1.mono HB0.out.size)); have HK1 := Lib.hid (show w1.cell? ⟨w.heap.size, 0, none⟩ = some (.int .i64 (Jn : Int)) ∧ w1.cell? ⟨w.heap.size, 1, none⟩ = some (.slice A xs.length cap) ∧ AwR w1 A xs from ⟨cell_keep HK0.out.1 hd1, cell_keep HK0.out.2.1 hd1, HK0.out.2.2.below hd1⟩); have c0_1 := HK1.out.1; have c1_1 := HK1.out.2.1; have hw1 : w.heap.size < w1.heap.size := World.block_lt_of_cell? _ _ HK1.out.1; have c1_2 := (World.cell?_alloc_past (.map #[] 0) w.heap.size 1 hw1).trans HK1.out.2.1; clear hd1)
    refine wp_region_held (S := fun w' => w'.cell? ⟨w.heap.size, 0, none⟩ = some (.int .i64 (Jn : Int)) ∧ w'.cell? ⟨w.heap.size, 1, none⟩ = some (.slice A xs.length cap) ∧ Below w1.heap.size w1 w') (by kernel_rfl) ?_
    try (change wpAnyH _ _ _ _ _ _ _ _ (World.drew _))
    have hS0 := (show w1.drew.cell? ⟨w.heap.size, 0, none⟩ = some (.int .i64 (Jn : Int)) ∧ w1.drew.cell? ⟨w.heap.size, 1, none⟩ = some (.slice A xs.length cap) ∧ Below w1.heap.size w1 w1.drew from ⟨c0_1, c1_1, Below.drew (Below.refl _ _)⟩)
    refine gTake 0 (v := ?_) rfl (by kernel_rfl) (by kernel_rfl) (by kernel_rfl) (fun _ _ _ h => h) (by kernel_rfl) ?_ hS0 ?_
    rotate_left
    · (intro W hW; have q0 := hW.1; have q1 := hW.2.1; clear hW; go_simp; try with_reducible rfl)
    refine gTake 1 (v := ?_) rfl (by kernel_rfl) (by kernel_rfl) (by kernel_rfl) (fun _ _ _ h => h) (by kernel_rfl) ?_ hS0 ?_
    rotate_left
    · (intro W hW; have q0 := hW.1; have q1 := hW.2.1; clear hW; go_simp; try with_reducible rfl)
    refine gOne 2 rfl (by kernel_rfl) (by kernel_rfl) (fun K hK => ?_)
    go_simp
    go_at_call 44
    with_reducible refine (treeOnly_any Jn A cap xs _ (HK1.out.2.2.below hS0.2.2) HOK.out).mono ?_
    rintro e wq0 ⟨tb, tc, tm, rfl, hmb, hom, hdq0⟩
    have HMB := Lib.hid hmb
    have HOM := Lib.hid hom
    clear hmb hom
    try go_simp
    have hS1 := (show wq0.cell? ⟨w.heap.size, 0, none⟩ = some (.int .i64 (Jn : Int)) ∧ wq0.cell? ⟨w.heap.size, 1, none⟩ = some (.slice A xs.length cap) ∧ Below w1.heap.size w1 wq0 from ⟨cellK hS0.1 hdq0, cellK hS0.2.1 hdq0, hS0.2.2.trans (hdq0.mono hS0.2.2.size)⟩)
    refine hK _ _ hS1 ?_
    clear hK K
    refine gTake 3 (v := ?_) rfl (by kernel_rfl) (by kernel_rfl) (by kernel_rfl) (fun _ _ _ h => h) (by kernel_rfl) ?_ hS1 ?_
    rotate_left
    · (intro W hW; clear hW; go_simp; try with_reducible rfl)
    refine gOne 4 rfl (by kernel_rfl) (by kernel_rfl) (fun K hK => ?_)
    go_simp
    go_at_call 43
    with_reducible refine (thatOpen (treeP xs) (Jn : Int) A xs.length cap tb wq0 hl (fun k w4 hk4 hb4 => by have h := isOpenU_any (Jn : Int) A xs.length cap tb tc k tm (fun k => !(treeP xs k)) w4 HMB.out (ownsMap_below HOM.out hb4) hk4 (by omega); simpa using h)).mono ?_
    rintro e wq1 ⟨u, rfl, ho1, hdq1⟩
    have HOV := Lib.hid (show OwnI wq1 wq0.heap.size u (treeL xs xs.length) from ho1)
    clear ho1
    try go_simp
    have hS2 := (show wq1.cell? ⟨w.heap.size, 0, none⟩ = some (.int .i64 (Jn : Int)) ∧ wq1.cell? ⟨w.heap.size, 1, none⟩ = some (.slice A xs.length cap) ∧ Below w1.heap.size w1 wq1 from ⟨cellK hS1.1 hdq1, cellK hS1.2.1 hdq1, hS1.2.2.trans (hdq1.mono hS1.2.2.size)⟩)
    refine hK _ _ hS2 ?_
    clear hK K
    refine gTake 5 (v := ?_) rfl (by kernel_rfl) (by kernel_rfl) (by kernel_rfl) (fun _ _ _ h => h) (by kernel_rfl) ?_ hS2 ?_
    rotate_left
    · (intro W hW; clear hW; go_simp; try with_reducible rfl)
    refine gTake 6 (v := ?_) rfl (by kernel_rfl) (by kernel_rfl) (by kernel_rfl) (fun _ _ _ h => h) (by kernel_rfl) ?_ hS2 ?_
    rotate_left
    · (intro W hW; clear hW; go_simp; try with_reducible rfl)
    refine wpAnyH_done (by kernel_rfl) ?_ _
    go_simp
    go_wp2
    go_ret2
    exact ⟨_, ret_vt HE.out.1.symm, by rw [HE.out.2]; exact own_lep HOV.out (by have := HB1.out.size; have := hS1.2.2.size; omega), HB1.out.trans (hS2.2.2.mono HB1.out.size)⟩
end Go.Proofs.Ytpojacacpbpehaa
