/-
  Airways that cannot be missed, the program's: a map written and undone. Conditions: those that each theorem states.
-/
import Derived.Test.YtjooebiiceillaaUr
import Derived.Test.YtjooebiiceillaaUq
namespace Go.Proofs.Ytjooebiiceillaa
open Go.RowKit
set_option linter.unusedVariables false
set_option linter.unusedSimpArgs false

theorem doorB {P : Program} {fn : Func} {R : Ending → World → Prop} {tmps : Array Value} {d : Deferred} {w : World} {b : Builtin} {ts : Array TypeId} {ty : TypeId} {cn : Array Bool} {x v : Value} (W4 : TypeId → World) (h1 : d.target = .builtin b ts ty cn) (h2 : (invoke d.target d.args).run P w = .ok (.value x) (W4 ty)) (h3 : (results fn tmps).run P (W4 ty) = .ok v (W4 ty)) (h4 : R (.returned v) (W4 ty)) :
    bodyPostB P fn R .ret { tmps := tmps, defers := [d] } w := ⟨b, ts, ty, cn, x, W4 ty, h1, h2, v, h3, h4⟩
/-- Whether an airway cannot be missed. -/
def brB (Jn : Nat) (xs : List Aw) (k : Nat) : Bool := !(decide (0 ≤ levD Jn xs (ixT (fun (j : Nat) => !(decide ((j : Int) = (k : Int)))) xs.length) (xs.getD k Aw.none).t (xs.getD k Aw.none).f))
set_option maxHeartbeats 8000000 in
set_option maxRecDepth 100000 in
theorem isBridge_any (Jn k b c cap : Nat) (A : Option Addr) (xs : List Aw) (w0 w : World) (hr : AwR w0 A xs) (hok : mineOk (Jn : Int) xs = true) (hb0 : Below w0.heap.size w0 w) (hb : w0.heap.size ≤ b) (hk : k < xs.length) (hown : w.ownsMap (H := Unit) Try.prog 2 (plainElem Try.prog 4) b c (.map [])) (hc : c ≤ 1000) :
    Calls Try.prog 100 #[.agg #[.int .i64 (Jn : Int), .slice A xs.length cap, .map (some b)], .int .i64 (k : Int)] w fun e w' => e = .returned (.bool (brB Jn xs k)) ∧ w'.ownsMap (H := Unit) Try.prog 2 (plainElem Try.prog 4) b (c + 1) (.map []) ∧ w.grownBy w' (some b) := by
  obtain ⟨hj, -, h24⟩ := mineOk_iff.1 hok
  have hbw := hown.lt
  have HOM := Lib.hid (show (w.alloc (.cells #[.int .i64 (Jn : Int), .slice A xs.length cap, .map (some b)] 96)).ownsMap (H := Unit) Try.prog 2 (plainElem Try.prog 4) b c (.map []) from hown.alloc _)
  have HR0 := Lib.hid hr
  have HOK := Lib.hid hok
  have HBA := Lib.hid (show Below w0.heap.size w0 (w.alloc (.cells #[.int .i64 (Jn : Int), .slice A xs.length cap, .map (some b)] 96)) from hb0.alloc hb0.size _)
  have HG0 := Lib.hid (show w.grownBy (w.alloc (.cells #[.int .i64 (Jn : Int), .slice A xs.length cap, .map (some b)] 96)) (some b) from World.grownBy_alloc w _ (some b))
  have HKN := Lib.hid (show (w.alloc (.cells #[.int .i64 (Jn : Int), .slice A xs.length cap, .map (some b)] 96)).cell? ⟨w.heap.size, 0, none⟩ = some (.int .i64 (Jn : Int)) ∧ (w.alloc (.cells #[.int .i64 (Jn : Int), .slice A xs.length cap, .map (some b)] 96)).cell? ⟨w.heap.size, 1, none⟩ = some (.slice A xs.length cap) ∧ (w.alloc (.cells #[.int .i64 (Jn : Int), .slice A xs.length cap, .map (some b)] 96)).cell? ⟨w.heap.size, 2, none⟩ = some (.map (some b)) from ⟨by simp, by simp, by simp⟩)
  have hzA : (w.alloc (.cells #[.int .i64 (Jn : Int), .slice A xs.length cap, .map (some b)] 96)).heap.size = w.heap.size + 1 := by simp
  have HZA := Lib.hid hzA
  obtain ⟨bR, hbR⟩ : ∃ x, brB Jn xs k = x := ⟨_, rfl⟩
  have HBR := Lib.hid hbR
  rw [hbR]
  clear hown hr hok hb0 hzA hbR
  refine calls_of_wp_deferB Try.func100 rfl ?_
  simp only [Try.ntmps100, List.size_toArray, List.length_cons, List.length_nil, Nat.reduceAdd, Nat.reduceSub, Array.replicate_succ, Array.replicate_zero, List.push_toArray, List.append_toArray, List.nil_append, List.cons_append]
  go_wp2_with (at_mapUpdate; refine wpList_mapUpdate_own _ rfl _ _ _ 94 rfl 2 4 (Maps.int_keyed Try.underlying2) Try.underlying94 _ b c _ rfl HOM.out (by unfold maxLen; omega) _ _ _ rfl rfl (keyIU (k : Int) (wfU (by omega))) _ [] (plainElem_bool Try.underlying4 true) ?_)
  intro w1 ho1 hg1
  have HO1 := Lib.hid ho1
  have HG1 := Lib.hid (show w.grownBy w1 (some b) from HG0.out.trans hg1)
  have HB1 := Lib.hid (show Below w0.heap.size w0 w1 from HBA.out.grown hg1 HBA.out.size (fun j hj => by injection hj with hj; omega))
  have n0 := (hg1.cell HKN.out.1 (show some w.heap.size ≠ some b from fun h => by injection h with h; omega))
  have n1 := (hg1.cell HKN.out.2.1 (show some w.heap.size ≠ some b from fun h => by injection h with h; omega))
  have n2 := (hg1.cell HKN.out.2.2 (show some w.heap.size ≠ some b from fun h => by injection h with h; omega))
  have hz1 : w.heap.size < w1.heap.size := by have := hg1.size; have := HZA.out; omega
  clear ho1 hg1
  have HR1 := Lib.hid (HR0.out.below HB1.out)
  obtain ⟨g, off, rfl, hrg⟩ := HR1.out k hk
  obtain ⟨⟨d0, d1, d2, d3⟩, d4, d5, d6⟩ := lay_row hrg
  have hen := ends_in HOK.out hk
  have HBE := Lib.hid (show decide (0 ≤ levD Jn xs (ixT (fun (j : Nat) => !(decide ((j : Int) = (k : Int)))) xs.length) xs[k].t xs[k].f) = !bR by rw [← HBR.out]; unfold brB; rw [getD_of_lt hk, Bool.not_not])
  have hkI : (k : Int) < (xs.length : Int) := by omega
  generalize xs[k] = a at *
  obtain ⟨sa, f, t, l, se, fr, sh⟩ := a
  dsimp only at d0 d1 d2 d3 d4 d5 d6 hen HBE
  clear hrg
  obtain ⟨fn, rfl⟩ : ∃ fn : Nat, f = fn := ⟨f.toNat, by omega⟩
  obtain ⟨tn, rfl⟩ : ∃ tn : Nat, t = tn := ⟨t.toNat, by omega⟩
  have hf1 : fn < Jn := by omega
  have ht1 : tn < Jn := by omega
  have HXB := Lib.hid (fun (o : Obj) => (below_box w1 o))
  go_wp2_with fail
  have HM2 := Lib.hid (HO1.out.alloc (.cells #[.string sa, .int .i64 (fn : Int), .int .i64 (tn : Int), .int .i64 l, .int .i64 se, .int .i64 fr, .int .i64 sh] 91))
  have HR2 := Lib.hid (HR1.out.below (HXB.out (.cells #[.string sa, .int .i64 (fn : Int), .int .i64 (tn : Int), .int .i64 l, .int .i64 se, .int .i64 fr, .int .i64 sh] 91)))
  (with_reducible refine (path_any (fun (j : Nat) => !(decide ((j : Int) = (k : Int)))) Jn _ cap (.map (some b)) xs fn tn _ HR2.out HOK.out hf1 ht1 rfl (fun W z _ hbz => openAtZ_any (Jn : Int) z _ cap b (c + 1) _ (fun (j : Nat) => decide ((j : Int) = (k : Int))) xs W (by omega) (HR2.out.below hbz) (MapZ.one k xs.length) (ownsMap_below HM2.out hbz))).mono ?_)
  rintro e w3 ⟨u3, rfl, -, hd3⟩
  have HM3 := Lib.hid (ownsMap_below HM2.out hd3)
  have HG3 := Lib.hid (show w.grownBy w3 (some b) from (HG1.out.trans (World.grownBy_alloc w1 _ (some b))).trans ⟨hd3.os, hd3.tape, hd3.output, hd3.size, fun i hi _ => hd3.block i hi⟩)
  clear hd3
  rw [HBE.out]
  go_wp2
  have hdl := fun ty => HM3.out.drop (t := 94) (Maps.int_keyed Try.underlying2) Try.underlying94 (keyIU (k : Int) (wfU (by omega))) ty
  obtain ⟨W4, hW4⟩ := Classical.axiomOfChoice hdl
  refine doorB (x := .tuple #[]) W4 rfl ?_ (results_tmp rfl _ _ _) ?_
  · simp [invoke, builtin, (hW4 _).1, Result.andThen]
  · obtain ⟨-, hm4, ht4⟩ := hW4 _
    rw [put_del] at hm4
    exact ⟨by simp, hm4, HG3.out.trans ht4.grown⟩
set_option maxHeartbeats 2000000 in
set_option maxRecDepth 100000 in
theorem thatBr (p : Nat → Bool) (J : Int) (A : Option Addr) (n cap b : Nat) (w0 w : World) (hn : n ≤ 100) (hB : Below w0.heap.size w0 w) (hb : w0.heap.size ≤ b) (hown : w.ownsMap (H := Unit) Try.prog 2 (plainElem Try.prog 4) b 0 (.map []))
    (hf : ∀ (k : Nat) (w1 : World), k < n → Below w0.heap.size w0 w1 → w1.ownsMap (H := Unit) Try.prog 2 (plainElem Try.prog 4) b k (.map []) → Calls Try.prog 100 #[.agg #[.int .i64 J, .slice A n cap, .map (some b)], .int .i64 (k : Int)] w1 fun e w2 => e = .returned (.bool (p k)) ∧ w2.ownsMap (H := Unit) Try.prog 2 (plainElem Try.prog 4) b (k + 1) (.map []) ∧ w1.grownBy w2 (some b)) :
    Calls Try.prog 91 #[.agg #[.int .i64 J, .slice A n cap], .func (.func 100) #[.agg #[.int .i64 J, .slice A n cap, .map (some b)]] #[]] w fun e w' => ∃ v, e = .returned v ∧ OwnI w' w.heap.size v (ixT p n) ∧ Below w0.heap.size w0 w' := by
  have HF := Lib.hid hf
  have hbw := hown.lt
  obtain ⟨i0, hi, hz0, hz1, hz2⟩ := info_parts info_i64
  have hw0 : w0.heap.size ≤ w.heap.size := hB.size
  have HB0 := Lib.hid (show Below w0.heap.size w0 (w.alloc (.cells #[.int .i64 J, .slice A n cap] 36)) from hB.alloc hw0 _)
  have HM0 := Lib.hid (show (w.alloc (.cells #[.int .i64 J, .slice A n cap] 36)).ownsMap (H := Unit) Try.prog 2 (plainElem Try.prog 4) b 0 (.map []) from hown.alloc _)
  clear hf hB hown
  go_enter Try.func91, Try.ntmps91
  go_wp2
  go_loopw [5, 10] (fun out i wr => ∃ k : Nat, k ≤ n ∧ i = .int .i64 k ∧ Hid (wr.ownsRow w.heap.size 2 1 out (ixT p k).length (intsV (ixT p k))) ∧ Hid (Below w0.heap.size w0 wr) ∧ Hid (wr.ownsMap (H := Unit) Try.prog 2 (plainElem Try.prog 4) b k (.map [])) ∧ w.heap.size ≤ wr.heap.size) (fun out i wr => n - (intOf i).toNat)
  case atStart => exact ⟨0, by omega, rfl, Lib.hid (World.ownsRow_nil _ _ _ _), HB0, HM0, by simp⟩
  case round =>
    obtain ⟨k, hk, rfl, HO, HBL, HM, hwr⟩ := hrel
    by_cases hlt : k < n
    · have HX := Lib.hid (HF.out k wr hlt HBL.out HM.out)
      have hll := ixT_len p k
      cases he : p k
      · rw [he] at HX
        have HN := Lib.hid (ixT_no he)
        clear he
        go_wp2_with fail
        (with_reducible refine (HX.out).mono ?_)
        rintro e w2 ⟨rfl, hm2, hg2⟩
        have HM2 := Lib.hid hm2
        have HO2 := Lib.hid (World.ownsRow.kept HO.out hg2 (Or.inr (fun h => by have := (HO.out.lt b h).1; omega)))
        have HB2 := Lib.hid (HBL.out.grown hg2 HBL.out.size (fun j hj => by injection hj with hj; omega))
        have hw2 : w.heap.size ≤ w2.heap.size := Nat.le_trans hwr hg2.size
        clear hm2 hg2
        go_wp2
        go_roundw
        case rel => exact ⟨k + 1, by omega, by go_num, by rw [HN.out]; exact HO2, HB2, HM2, hw2⟩
        case measure => simp [intOf]; omega
      · rw [he] at HX
        have HN := Lib.hid (ixT_yes he)
        clear he
        go_wp2_with fail
        (with_reducible refine (HX.out).mono ?_)
        rintro e w2 ⟨rfl, hm2, hg2⟩
        have HM2 := Lib.hid hm2
        have HO2 := Lib.hid (World.ownsRow.kept HO.out hg2 (Or.inr (fun h => by have := (HO.out.lt b h).1; omega)))
        have HB2 := Lib.hid (HBL.out.grown hg2 HBL.out.size (fun j hj => by injection hj with hj; omega))
        have hw2 : w.heap.size ≤ w2.heap.size := Nat.le_trans hwr hg2.size
        clear hm2 hg2
        go_wp2_with (first
          | (at_builtin; refine wpList_append_own_at _ rfl _ _ 30 rfl w.heap.size 2 i0 (.int .i64 0) 1 8 Try.underlying30 hi hz0 hz1 hz2 rfl (by decide) _ _ _ rfl (HO2.out.alloc _) ⟨w2.heap.size, 0, none⟩ 1 1 [.int .i64 (k)] rfl rfl ?c1z ?c2z ?c3z ?c4z ?c5z ?_))
        case c1z => intro j u hj; match j, hj with | 0, hj => (simp at hj; subst hj; simp [Addr.add]) | j + 1, hj => (simp at hj)
        case c2z => simp [Value.oneCell']
        case c3z => unfold maxLen; omega
        case c4z => omega
        case c5z => (simp; omega)
        intro v3 w3 ho3 hg3 _ hl3
        have HO3 := Lib.hid ho3
        have HB3 := Lib.hid ((HB2.out.alloc HB2.out.size _).grown hg3 (by have := HB2.out.size; simp; omega) (fun k hk => by have := (HO2.out.lt k hk).1; omega))
        have HM3 := Lib.hid ((HM2.out.alloc _).kept hg3 (fun h => by have := (HO2.out.lt b h.symm).1; omega))
        have hw3 : w.heap.size ≤ w3.heap.size := Nat.le_trans (by simp; omega) hg3.size
        clear ho3 hg3 hl3
        go_wp2
        go_roundw
        case rel => exact ⟨k + 1, by omega, by go_num, by rw [HN.out, ints_snocY, List.length_append]; exact HO3, HB3, HM3, hw3⟩
        case measure => simp [intOf]; omega
    · obtain rfl : k = n := by omega
      go_wp2
      go_ret
      exact ⟨_, rfl, HO.out, HBL.out⟩
end Go.Proofs.Ytjooebiiceillaa
