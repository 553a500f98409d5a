/-
  Contracts of chapter 4: spanning forests; the program's. Conditions: those that each theorem states.
-/
import Derived.Test.YtjooebiiceillaaUe
import Derived.Test.YtjooebiiceillaaRg
namespace Go.Proofs.Ytjooebiiceillaa
open Go.RowKit
set_option linter.unusedVariables false
set_option linter.unusedSimpArgs false

/-- What a map of Bools holds at the numbers below n. -/
def MapB {H : Type} (m : DataW H) (p : Nat → Bool) (n : Nat) : Prop :=
  Maps.IsMap m ∧ ∀ (k : Nat) (z : DataW H), k < n → m.atKey (.int .i64 (k : Int)) z = .lit (.bool (p k))
theorem MapB.empty {H : Type} (p : Nat → Bool) : MapB (H := H) (.map []) p 0 := ⟨⟨[], rfl⟩, fun k z h => absurd h (by omega)⟩
theorem MapB.put {H : Type} {m : DataW H} {p : Nat → Bool} {n : Nat} (h : MapB m p n) : MapB (m.put (.int .i64 (n : Int)) (.lit (.bool (p n)))) p (n + 1) := by
  refine ⟨h.1.put _ _, fun k z hk => ?_⟩
  by_cases e : k = n
  · subst e
    exact Maps.atKey_put_same h.1 (by trivial) _ _
  · have hne : (Lit.int .i64 (k : Int)) ≠ Lit.int .i64 (n : Int) := fun h => e (by injection h with _ h; omega)
    rw [Maps.atKey_put_other hne]
    exact h.2 k z (by omega)
theorem ownsMap_below {w w' : World} {k : TypeId} {R : Value → Option (DataW Unit × List MemPlace)} {b n : Nat} {D : DataW Unit} (h : w.ownsMap Try.prog k R b n D) (hb : Below w.heap.size w w') : w'.ownsMap Try.prog k R b n D :=
  h.kept (row := none) ⟨hb.os, hb.tape, hb.output, hb.size, fun i hi _ => hb.block i hi⟩ (by simp)
theorem zeroBU (w : World) : (zeroValue 4).run Try.prog w = .ok (.bool false) w := by kernel_rfl
set_option maxRecDepth 100000 in
theorem look_bool (b c k : Nat) (m : DataW Unit) (p : Nat → Bool) (n : Nat) (W : World) (hm : MapB m p n) (hown : W.ownsMap (H := Unit) Try.prog 2 (plainElem Try.prog 4) b c m) (hk : k < n) (hn : n ≤ 1000) :
    (Instr.lookup 94 (.map (some b)) (.int .i64 (k : Int)) false).run Try.prog W = .ok (.bool (p k)) W := by
  obtain ⟨v, ps, h1, h2⟩ := hown.lookup (Maps.int_keyed Try.underlying2) Try.underlying94 (zeroBU W) (plainElem_bool Try.underlying4 false) (keyIU (k : Int) (wfU (by omega)))
  rw [hm.2 k _ hk] at h2
  unfold plainElem at h2
  rw [Try.underlying4] at h2
  cases v <;> simp at h2
  rw [h1, h2.1]
set_option maxRecDepth 100000 in
theorem isOpenU_any (J : Int) (A : Option Addr) (n cap b c k : Nat) (m : DataW Unit) (p : Nat → Bool) (w : World) (hm : MapB m p n) (hown : w.ownsMap (H := Unit) Try.prog 2 (plainElem Try.prog 4) b c m) (hk : k < n) (hn : n ≤ 1000) :
    Calls Try.prog 133 #[.agg #[.int .i64 J, .slice A n cap, .map (some b)], .int .i64 (k : Int)] w fun e w' => e = .returned (.bool (!(p k))) ∧ Below w.heap.size w w' := by
  have hrun := look_bool b c k m p n (w.alloc (.cells #[.int .i64 J, .slice A n cap, .map (some b)] 96)) hm (hown.alloc _) hk hn
  go_enter Try.func133, Try.ntmps133
  go_wp2
  go_ret
  exact ⟨by first | rfl | simp, below_box _ _⟩
set_option maxHeartbeats 2000000 in
set_option maxRecDepth 100000 in
theorem thatOpen (p : Nat → Bool) (J : Int) (A : Option Addr) (n cap b : Nat) (w : World) (hn : n ≤ 1048576)
    (hf : ∀ (k : Nat) (w1 : World), k < n → Below w.heap.size w w1 → Calls Try.prog 133 #[.agg #[.int .i64 J, .slice A n cap, .map (some b)], .int .i64 (k : Int)] w1 fun e w2 => e = .returned (.bool (p k)) ∧ Below w1.heap.size w1 w2) :
    Calls Try.prog 91 #[.agg #[.int .i64 J, .slice A n cap], .func (.func 133) #[.agg #[.int .i64 J, .slice A n cap, .map (some b)]] #[]] w fun e w' => ∃ v, e = .returned v ∧ OwnI w' w.heap.size v (ixT p n) ∧ Below w.heap.size w w' := by
  have HF := Lib.hid hf
  obtain ⟨i0, hi, hz0, hz1, hz2⟩ := info_parts info_i64
  have HB0 := Lib.hid (below_box w (.cells #[.int .i64 J, .slice A n cap] 36))
  clear hf
  go_enter Try.func91, Try.ntmps91
  go_wp2
  go_loopw [5, 10] (fun out i wr => ∃ k : Nat, k ≤ n ∧ i = .int .i64 k ∧ wr.ownsRow w.heap.size 2 1 out (ixT p k).length (intsV (ixT p k)) ∧ Below w.heap.size w wr) (fun out i wr => n - (intOf i).toNat)
  case atStart => exact ⟨0, by omega, rfl, World.ownsRow_nil _ _ _ _, HB0.out⟩
  case round =>
    obtain ⟨k, hk, rfl, hown, hbel⟩ := hrel
    by_cases hlt : k < n
    · have HX := Lib.hid (HF.out k wr hlt hbel)
      have hll := ixT_len p k
      have HO := Lib.hid hown
      have HBL := Lib.hid hbel
      have hwr : w.heap.size ≤ wr.heap.size := hbel.size
      clear hown hbel
      cases he : p k
      · rw [he] at HX
        have HN := Lib.hid (ixT_no he)
        clear he
        go_wp2_with fail
        (with_reducible refine (HX.out).mono ?_)
        rintro e w2 ⟨rfl, hb2⟩
        have HO2 := Lib.hid (own_below HO.out hb2)
        have HB2 := Lib.hid (HBL.out.trans (hb2.mono HBL.out.size))
        clear hb2
        go_wp2
        go_roundw
        case rel => exact ⟨k + 1, by omega, by go_num, by rw [HN.out]; exact HO2.out, HB2.out⟩
        case measure => simp [intOf]; omega
      · rw [he] at HX
        have HN := Lib.hid (ixT_yes he)
        clear he
        go_wp2_with fail
        (with_reducible refine (HX.out).mono ?_)
        rintro e w2 ⟨rfl, hb2⟩
        have HO2 := Lib.hid (own_below HO.out hb2)
        have HB2 := Lib.hid (HBL.out.trans (hb2.mono HBL.out.size))
        have hw2 : w.heap.size ≤ w2.heap.size := HB2.out.size
        clear hb2
        go_wp2_with (first
          | (at_builtin; refine wpList_append_own_at _ rfl _ _ 30 rfl w.heap.size 2 i0 (.int .i64 0) 1 8 Try.underlying30 hi hz0 hz1 hz2 rfl (by decide) _ _ _ rfl (HO2.out.alloc _) ⟨w2.heap.size, 0, none⟩ 1 1 [.int .i64 (k)] rfl rfl ?c1z ?c2z ?c3z ?c4z ?c5z ?_))
        case c1z => intro j u hj; match j, hj with | 0, hj => (simp at hj; subst hj; simp [Addr.add]) | j + 1, hj => (simp at hj)
        case c2z => simp [Value.oneCell']
        case c3z => unfold maxLen; omega
        case c4z => omega
        case c5z => (simp; omega)
        intro v3 w3 ho3 hg3 _ hl3
        have HO3 := Lib.hid ho3
        have HB3 := Lib.hid ((HB2.out.alloc HB2.out.size _).grown hg3 (by simp; omega) (fun k hk => (HO2.out.lt k hk).1))
        clear ho3 hg3 hl3
        go_wp2
        go_roundw
        case rel => exact ⟨k + 1, by omega, by go_num, by rw [HN.out, ints_snocY, List.length_append]; exact HO3.out, HB3.out⟩
        case measure => simp [intOf]; omega
    · obtain rfl : k = n := by omega
      have HO := Lib.hid hown
      have HBL := Lib.hid hbel
      clear hown hbel
      go_wp2
      go_ret
      exact ⟨_, rfl, HO.out, HBL.out⟩
set_option maxHeartbeats 4000000 in
set_option maxRecDepth 100000 in
theorem treeOnly_any (Jn : Nat) (A : Option Addr) (cap : Nat) (xs : List Aw) (w : World) (hr : AwR w A xs) (hok : mineOk (Jn : Int) xs = true) :
    Calls Try.prog 90 #[.agg #[.int .i64 (Jn : Int), .slice A xs.length cap]] w fun e w' => ∃ (b c : Nat) (m : DataW Unit), e = .returned (.agg #[.int .i64 (Jn : Int), .slice A xs.length cap, .map (some b)]) ∧ MapB m (fun k => !(treeP xs k)) xs.length ∧ w'.ownsMap (H := Unit) Try.prog 2 (plainElem Try.prog 4) b c m ∧ Below w.heap.size w w' := by
  obtain ⟨hj, -, hn⟩ := mineOk_iff.1 hok
  have HR := Lib.hid hr
  have HOK := Lib.hid hok
  have HNN := Lib.hid (fun k => es2_nn hok k)
  have hmm := @run_makeMap Try.prog
  clear hr hok
  go_enter Try.func90, Try.ntmps90
  have HKA := Lib.hid (show (((w.alloc (.cells #[.int .i64 (Jn : Int), .slice A xs.length cap] 36)).alloc (.cells #[.int .i64 0, .slice none 0 0, .map none] 96)).cell? ⟨w.heap.size, 0, none⟩ = some (.int .i64 (Jn : Int)) ∧ ((w.alloc (.cells #[.int .i64 (Jn : Int), .slice A xs.length cap] 36)).alloc (.cells #[.int .i64 0, .slice none 0 0, .map none] 96)).cell? ⟨w.heap.size, 1, none⟩ = some (.slice A xs.length cap)) ∧ (((w.alloc (.cells #[.int .i64 (Jn : Int), .slice A xs.length cap] 36)).alloc (.cells #[.int .i64 0, .slice none 0 0, .map none] 96)).cell? ⟨w.heap.size + 1, 0, none⟩ = some (.int .i64 0) ∧ ((w.alloc (.cells #[.int .i64 (Jn : Int), .slice A xs.length cap] 36)).alloc (.cells #[.int .i64 0, .slice none 0 0, .map none] 96)).cell? ⟨w.heap.size + 1, 1, none⟩ = some (.slice none 0 0) ∧ ((w.alloc (.cells #[.int .i64 (Jn : Int), .slice A xs.length cap] 36)).alloc (.cells #[.int .i64 0, .slice none 0 0, .map none] 96)).cell? ⟨w.heap.size + 1, 2, none⟩ = some (.map none)) ∧ ((w.alloc (.cells #[.int .i64 (Jn : Int), .slice A xs.length cap] 36)).alloc (.cells #[.int .i64 0, .slice none 0 0, .map none] 96)).frozen? ⟨w.heap.size + 1, 0, none⟩ = false ∧ ((w.alloc (.cells #[.int .i64 (Jn : Int), .slice A xs.length cap] 36)).alloc (.cells #[.int .i64 0, .slice none 0 0, .map none] 96)).frozen? ⟨w.heap.size + 1, 1, none⟩ = false ∧ ((w.alloc (.cells #[.int .i64 (Jn : Int), .slice A xs.length cap] 36)).alloc (.cells #[.int .i64 0, .slice none 0 0, .map none] 96)).frozen? ⟨w.heap.size + 1, 2, none⟩ = false from ⟨⟨by simp, by simp⟩, ⟨by simp, by simp, by simp⟩, by simp, by simp, by simp⟩)
  have HB2 := Lib.hid (show Below w.heap.size w ((w.alloc (.cells #[.int .i64 (Jn : Int), .slice A xs.length cap] 36)).alloc (.cells #[.int .i64 0, .slice none 0 0, .map none] 96)) from (below_box _ _).alloc (by simp) _)
  have hs2 : ((w.alloc (.cells #[.int .i64 (Jn : Int), .slice A xs.length cap] 36)).alloc (.cells #[.int .i64 0, .slice none 0 0, .map none] 96)).heap.size = w.heap.size + 1 + 1 := by simp
  go_wp2_with fail
  clear hmm
  generalize ((w.alloc (.cells #[.int .i64 (Jn : Int), .slice A xs.length cap] 36)).alloc (.cells #[.int .i64 0, .slice none 0 0, .map none] 96)) = WB at *
  have HMC := Lib.hid (show ((WB.alloc (.map #[] 0)).alloc (.map #[] 0)).ownsMap (H := Unit) Try.prog 2 (plainElem Try.prog 4) (w.heap.size + 1 + 1) 0 (.map []) from by
    have h := World.ownsMap_made (H := Unit) WB Try.prog 2 (plainElem Try.prog 4)
    rw [hs2] at h
    exact h.alloc _)
  have HMG := Lib.hid (show ((WB.alloc (.map #[] 0)).alloc (.map #[] 0)).ownsMap (H := Unit) Try.prog 2 (plainElem Try.prog 2) (w.heap.size + 1 + 1 + 1) 0 (.map []) from by
    have h := World.ownsMap_made (H := Unit) (WB.alloc (.map #[] 0)) Try.prog 2 (plainElem Try.prog 2)
    rw [World.size_alloc, hs2] at h
    exact h)
  have HBA := Lib.hid (show Below WB.heap.size WB ((WB.alloc (.map #[] 0)).alloc (.map #[] 0)) from (below_box _ _).alloc (by simp) _)
  have hzw : w.heap.size + 1 < WB.heap.size := by omega
  go_loopw [12] (fun i wr => ∃ (k ng : Nat) (mg mc : DataW Unit), k ≤ xs.length ∧ i = .int .i64 k ∧ ng ≤ k ∧ Hid (MapF mg (joinsF (es2 xs k))) ∧ Hid (wr.ownsMap (H := Unit) Try.prog 2 (plainElem Try.prog 2) (w.heap.size + 1 + 1 + 1) ng mg) ∧ Hid (MapB mc (fun k => !(treeP xs k)) k) ∧ Hid (wr.ownsMap (H := Unit) Try.prog 2 (plainElem Try.prog 4) (w.heap.size + 1 + 1) k mc) ∧ Hid (Below WB.heap.size WB wr)) (fun i wr => xs.length - (intOf i).toNat)
  case atStart => exact ⟨0, 0, _, _, by omega, rfl, by omega, MapF.empty, HMG, MapB.empty _, HMC, HBA⟩
  case round =>
    obtain ⟨k, ng, mg, mc, hk, rfl, hng, HF, HOG, HC, HOC, HB⟩ := hrel
    obtain ⟨wo, rfl⟩ : ∃ wo : World, wo = wr := ⟨_, rfl⟩
    have hzo := HB.out.size
    have HJF := Lib.hid (joinsF_falls (es2 xs k) (HNN.out k))
    have HBW := Lib.hid (HB2.out.trans (HB.out.mono (by omega)))
    by_cases hlt : k < xs.length
    · obtain ⟨g, off, rfl, hrg⟩ := HR.out.below HBW.out k hlt
      obtain ⟨⟨d0, d1, d2, d3⟩, d4, d5, d6⟩ := lay_row hrg
      have hen := ends_inU HOK.out hlt
      have HES := Lib.hid (show joinsF (es2 xs (k + 1)) = joinF (joinsF (es2 xs k)) xs[k].f xs[k].t by rw [es2_snoc hlt]; rfl)
      have HTP := Lib.hid (show (!(decide (root (joinsF (es2 xs k)) xs[k].f = root (joinsF (es2 xs k)) xs[k].t))) = treeP xs k by
        unfold treeP
        rw [getD_of_lt hlt, root_joins _ (HNN.out k)])
      have HCP := Lib.hid (HC.out.put)
      generalize xs[k] = a at *
      obtain ⟨sa, f, t, l, se, fr, sh⟩ := a
      dsimp only at d0 d1 d2 d3 d4 d5 d6 hen HES HTP
      clear hrg
      obtain ⟨fn, rfl⟩ : ∃ fn : Nat, f = fn := ⟨f.toNat, by omega⟩
      obtain ⟨tn, rfl⟩ : ∃ tn : Nat, t = tn := ⟨t.toNat, by omega⟩
      have HBX := Lib.hid (show Below WB.heap.size WB (wo.alloc (.cells #[.string sa, .int .i64 (fn : Int), .int .i64 (tn : Int), .int .i64 l, .int .i64 se, .int .i64 fr, .int .i64 sh] 91)) from HB.out.alloc hzo _)
      have HOG2 := Lib.hid (show (wo.alloc (.cells #[.string sa, .int .i64 (fn : Int), .int .i64 (tn : Int), .int .i64 l, .int .i64 se, .int .i64 fr, .int .i64 sh] 91)).ownsMap (H := Unit) Try.prog 2 (plainElem Try.prog 2) (w.heap.size + 1 + 1 + 1) ng mg from HOG.out.alloc _)
      have HOC2 := Lib.hid (show (wo.alloc (.cells #[.string sa, .int .i64 (fn : Int), .int .i64 (tn : Int), .int .i64 l, .int .i64 se, .int .i64 fr, .int .i64 sh] 91)).ownsMap (H := Unit) Try.prog 2 (plainElem Try.prog 4) (w.heap.size + 1 + 1) k mc from HOC.out.alloc _)
      have hzx := HBX.out.size
      have hne : some (w.heap.size + 1 + 1) ≠ some (w.heap.size + 1 + 1 + 1) := fun h => by injection h with h; omega
      generalize htp : treeP xs k = tp at *
      go_wp2_with (first
        | (go_at_call 119; refine (gJoin_any (w.heap.size + 1 + 1 + 1) ng mg (joinsF (es2 xs k)) fn tn _ HF.out HJF.out HOG2.out (by omega) (by omega) (by omega)).mono ?_; rintro e w3 ⟨rfl, m3, n3, hn3, hm3, ho3, hg3⟩; rw [HTP.out]; have HM3 := Lib.hid hm3; have HO3 := Lib.hid ho3; have HC3 := Lib.hid (HOC2.out.kept hg3 hne); have HB3 := Lib.hid (HBX.out.grown hg3 hzx (fun j hj => by injection hj with hj; omega)); clear hm3 ho3 hg3)
        | (at_mapUpdate; refine wpList_mapUpdate_own _ rfl _ _ _ 94 rfl 2 4 (Maps.int_keyed Try.underlying2) Try.underlying94 _ (w.heap.size + 1 + 1) k _ rfl HC3.out (by unfold maxLen; omega) _ _ _ rfl rfl (keyIU (k : Int) (wfU (by omega))) _ [] (plainElem_bool Try.underlying4 (!tp)) ?_))
      intro w4 ho4 hg4
      have hz3 := HB3.out.size
      have HO4 := Lib.hid ho4
      have HG4 := Lib.hid (HO3.out.kept hg4 (fun h => hne h.symm))
      have HB4 := Lib.hid (HB3.out.grown hg4 hz3 (fun j hj => by injection hj with hj; omega))
      clear ho4 hg4
      go_wp2
      go_roundw
      case rel => exact ⟨k + 1, n3, m3, _, by omega, by go_num, by omega, by rw [HES.out]; exact HM3, HG4, HCP, HO4, HB4⟩
      case measure => simp [intOf]; omega
    · obtain rfl : k = xs.length := by omega
      obtain ⟨⟨k0, k1⟩, ⟨k2, k3, k4⟩, k5, k6, k7⟩ := HKA.out
      have m0 := (HB.out.cell (p := ⟨w.heap.size, 0, none⟩) (by show w.heap.size < WB.heap.size; omega)).trans k0
      have m1 := (HB.out.cell (p := ⟨w.heap.size, 1, none⟩) (by show w.heap.size < WB.heap.size; omega)).trans k1
      have m2 := (HB.out.cell (p := ⟨w.heap.size + 1, 0, none⟩) hzw).trans k2
      have m3 := (HB.out.cell (p := ⟨w.heap.size + 1, 1, none⟩) hzw).trans k3
      have m4 := (HB.out.cell (p := ⟨w.heap.size + 1, 2, none⟩) hzw).trans k4
      have m5 := (HB.out.frozen (p := ⟨w.heap.size + 1, 0, none⟩) hzw).trans k5
      have m6 := (HB.out.frozen (p := ⟨w.heap.size + 1, 1, none⟩) hzw).trans k6
      have m7 := (HB.out.frozen (p := ⟨w.heap.size + 1, 2, none⟩) hzw).trans k7
      clear k0 k1 k2 k3 k4 k5 k6 k7
      have n01 : (⟨w.heap.size + 1, 0, none⟩ : Addr) ≠ ⟨w.heap.size + 1, 1, none⟩ := by simp
      have n02 : (⟨w.heap.size + 1, 0, none⟩ : Addr) ≠ ⟨w.heap.size + 1, 2, none⟩ := by simp
      have n12 : (⟨w.heap.size + 1, 1, none⟩ : Addr) ≠ ⟨w.heap.size + 1, 2, none⟩ := by simp
      go_wp2
      have f0 : (((wo.setCell ⟨w.heap.size + 1, 0, none⟩ (.int .i64 (Jn : Int))).setCell ⟨w.heap.size + 1, 1, none⟩ (.slice A xs.length cap)).setCell ⟨w.heap.size + 1, 2, none⟩ (.map (some (w.heap.size + 1 + 1)))).cell? ⟨w.heap.size + 1, 0, none⟩ = some (.int .i64 (Jn : Int)) :=
        (World.cell?_setCell_other _ _ _ _ n02.symm).trans ((World.cell?_setCell_other _ _ _ _ n01.symm).trans (World.cell?_setCell_same _ _ _ m2))
      have f1 : (((wo.setCell ⟨w.heap.size + 1, 0, none⟩ (.int .i64 (Jn : Int))).setCell ⟨w.heap.size + 1, 1, none⟩ (.slice A xs.length cap)).setCell ⟨w.heap.size + 1, 2, none⟩ (.map (some (w.heap.size + 1 + 1)))).cell? ⟨w.heap.size + 1, 1, none⟩ = some (.slice A xs.length cap) :=
        (World.cell?_setCell_other _ _ _ _ n12.symm).trans (World.cell?_setCell_same _ _ _ ((World.cell?_setCell_other _ _ _ _ n01).trans m3))
      have f2 : (((wo.setCell ⟨w.heap.size + 1, 0, none⟩ (.int .i64 (Jn : Int))).setCell ⟨w.heap.size + 1, 1, none⟩ (.slice A xs.length cap)).setCell ⟨w.heap.size + 1, 2, none⟩ (.map (some (w.heap.size + 1 + 1)))).cell? ⟨w.heap.size + 1, 2, none⟩ = some (.map (some (w.heap.size + 1 + 1))) :=
        World.cell?_setCell_same _ _ _ ((World.cell?_setCell_other _ _ _ _ n12).trans ((World.cell?_setCell_other _ _ _ _ n02).trans m4))
      have hnb : w.heap.size + 1 + 1 ≠ w.heap.size + 1 := by omega
      have HOF := Lib.hid (((HOC.out.setCell (a := ⟨w.heap.size + 1, 0, none⟩) hnb (.int .i64 (Jn : Int))).setCell (a := ⟨w.heap.size + 1, 1, none⟩) hnb (.slice A xs.length cap)).setCell (a := ⟨w.heap.size + 1, 2, none⟩) hnb (.map (some (w.heap.size + 1 + 1))))
      have HBF := Lib.hid (((HBW.out.setCell (p := ⟨w.heap.size + 1, 0, none⟩) (by show w.heap.size ≤ w.heap.size + 1; omega) (.int .i64 (Jn : Int))).setCell (p := ⟨w.heap.size + 1, 1, none⟩) (by show w.heap.size ≤ w.heap.size + 1; omega) (.slice A xs.length cap)).setCell (p := ⟨w.heap.size + 1, 2, none⟩) (by show w.heap.size ≤ w.heap.size + 1; omega) (.map (some (w.heap.size + 1 + 1))))
      refine bodyPost_ret (v := .agg #[.int .i64 (Jn : Int), .slice A xs.length cap, .map (some (w.heap.size + 1 + 1))]) (by simp [results, Try.results90, go_sem, f0, f1, f2]) rfl ⟨_, _, _, rfl, HC.out, HOF.out, HBF.out⟩
theorem ret_vt {v : Value} {b b' : Int} (h : b = b') : Ending.returned (.tuple #[v, .int .i64 b]) = .returned (.tuple #[v, .int .i64 b']) := by rw [h]
end Go.Proofs.Ytjooebiiceillaa
