/-
  Contracts of chapter 4: spanning forests; the model's. Conditions: those that each theorem states.
-/
import Derived.Test.YtjooebiiceillaaUd
namespace Go.Proofs.Ytjooebiiceillaa
open Go.RowKit
set_option linter.unusedVariables false
set_option linter.unusedSimpArgs false

theorem labS_same {lab : Int → Int} {a b : Int} (h : lab a = lab b) : labS lab a b = lab := by
  funext j
  rw [labS_def, h]
  simp
  intro e
  exact e.symm
/-- Whether an airway joins what was apart. -/
def treeP (xs : List Aw) (k : Nat) : Bool := !(decide (labsE (es2 xs k) (xs.getD k Aw.none).f = labsE (es2 xs k) (xs.getD k Aw.none).t))
def treeL (xs : List Aw) (k : Nat) : List Int := ixT (treeP xs) k
theorem ixT_mem (p : Nat → Bool) : ∀ k y, y ∈ ixT p k → 0 ≤ y ∧ y < (k : Int)
  | 0, y, h => by simp [ixT] at h
  | k + 1, y, h => by
    rw [ixT] at h
    split at h
    · rw [List.mem_append, List.mem_singleton] at h
      rcases h with h | h
      · have := ixT_mem p k y h; omega
      · omega
    · have := ixT_mem p k y h; omega
theorem labT_full (xs : List Aw) (ls : List Int) : labT xs ls ls.length = labsE (ls.map (endsOf xs)).reverse := by unfold labT esOf; rw [List.take_length]
/-- The airways of the forest tell the labels of all. -/
theorem tree_lab (xs : List Aw) : ∀ k, k ≤ xs.length → labT xs (treeL xs k) (treeL xs k).length = labsE (es2 xs k)
  | 0, _ => by simp [labT, esOf, treeL, ixT, es2]
  | k + 1, h => by
    have hk : k < xs.length := by omega
    have ih := tree_lab xs k (by omega)
    rw [labT_full] at ih ⊢
    have hs : labsE (es2 xs (k + 1)) = labS (labsE (es2 xs k)) xs[k].f xs[k].t := by rw [es2_snoc hk]; rfl
    rw [hs]
    have he : endsOf xs (k : Int) = (xs[k].f, xs[k].t) := by unfold endsOf; rw [Int.toNat_natCast, getD_of_lt hk]
    cases hp : treeP xs k
    · rw [show treeL xs (k + 1) = treeL xs k from ixT_no hp, ih]
      unfold treeP at hp
      rw [getD_of_lt hk] at hp
      symm
      apply labS_same
      simpa using hp
    · rw [show treeL xs (k + 1) = treeL xs k ++ [(k : Int)] from ixT_yes hp, List.map_append, List.reverse_append]
      show labS (labsE ((treeL xs k).map (endsOf xs)).reverse) (endsOf xs (k : Int)).1 (endsOf xs (k : Int)).2 = _
      rw [ih, he]
/-- What TreeOf returns. -/
def trR (J : Int) (xs : List Aw) : List Int := if mineOk J xs then treeL xs xs.length else []
theorem trR_len (J : Int) (xs : List Aw) : (trR J xs).length ≤ xs.length := by unfold trR; split; exact ixT_len _ _; simp
set_option maxHeartbeats 4000000 in
set_option maxRecDepth 100000 in
theorem l04Tree_any (b cap Jn : Nat) (A : Option Addr) (xs : List Aw) (w : World) (hJ : w.cell? ⟨b, 0, none⟩ = some (.int .i64 (Jn : Int))) (hA : w.cell? ⟨b, 1, none⟩ = some (.slice A xs.length cap)) (hr : AwR w A xs) (hok : mineOk (Jn : Int) xs = true) :
    Calls Try.prog 117 #[.pointer (some ⟨b, 0, none⟩)] w fun e w' => ∃ u, e = .returned u ∧ OwnI w' w.heap.size u (treeL xs xs.length) ∧ Below w.heap.size w w' := by
  obtain ⟨hj, -, hn⟩ := mineOk_iff.1 hok
  have hbl := World.block_lt_of_cell? _ _ hJ
  have HM := Lib.hid (And.intro hJ hA)
  have HR := Lib.hid hr
  have HOK := Lib.hid hok
  obtain ⟨i0, hi, hz0, hz1, hz2⟩ := info_parts info_i64
  clear hJ hA hr hok
  go_enter Try.func117, Try.ntmps117
  go_wp2
  go_loopw [3, 4] (fun out i wr => ∃ k : Nat, k ≤ xs.length ∧ i = .int .i64 k ∧ Hid (OwnI wr w.heap.size out (treeL xs k)) ∧ Hid (Below w.heap.size w wr)) (fun out i wr => xs.length - (intOf i).toNat)
  case atStart => exact ⟨0, by omega, rfl, Lib.hid (World.ownsRow_lit _ _ 0 (Nat.le_refl _) (by simp [maxLen]) rfl), Lib.hid ((Below.refl _ _).alloc (Nat.le_refl _) _)⟩
  case round =>
    obtain ⟨k, hk, rfl, HO, HB⟩ := hrel
    have hm0 := (HB.out.cell (p := ⟨b, 0, none⟩) hbl).trans HM.out.1
    have hm1 := (HB.out.cell (p := ⟨b, 1, none⟩) hbl).trans HM.out.2
    obtain ⟨wo, rfl⟩ : ∃ wo : World, wo = wr := ⟨_, rfl⟩
    by_cases hlt : k < xs.length
    · have hll : (treeL xs k).length ≤ k := ixT_len _ _
      have hlm : ∀ y ∈ treeL xs k, 0 ≤ y ∧ y < (xs.length : Int) := fun y hy => by have := ixT_mem _ _ y hy; omega
      have HLT := Lib.hid (tree_lab xs k hk)
      have HLM := Lib.hid hlm
      clear hlm
      go_wp2_with (go_at_call 99; refine (l04Parts_any b cap Jn A xs _ (treeL xs k) _ hm0 hm1 (HR.out.below HB.out) (RowW.of_ownI HO.out) HLM.out (by omega) HOK.out).mono ?_; rintro e w2 ⟨u, rfl, ho2, hd2⟩; rw [HLT.out] at ho2; have HP2 := Lib.hid (show OwnI w2 wo.heap.size u (partsL Jn (labsE (es2 xs k))) from ho2); have HD2 := Lib.hid hd2; clear ho2 hd2)
      obtain ⟨g, gcap, hge, hgB⟩ : ∃ g gcap, u = .slice (some ⟨g, 0, none⟩) Jn gcap ∧ wo.heap.size ≤ g := by
        rcases HP2.out.2 with ⟨-, h0⟩ | ⟨g, cap, cur, e, hg, -⟩
        · rw [partsL_len] at h0; omega
        · rw [partsL_len] at e; exact ⟨g, cap, e, hg⟩
      subst hge
      have hown : w2.ownsRow wo.heap.size 2 1 (.slice (some ⟨g, 0, none⟩) Jn gcap) Jn (intsV (partsL Jn (labsE (es2 xs k)))) := by
        have h := HP2.out
        unfold OwnI at h
        rwa [partsL_len] at h
      have HBW := Lib.hid (HB.out.trans (HD2.out.mono HB.out.size))
      obtain ⟨ga, off, rfl, hrg⟩ := HR.out.below HBW.out k hlt
      obtain ⟨⟨c0, c1, c2, c3⟩, c4, c5, c6⟩ := lay_row hrg
      have hen := ends_inU HOK.out hlt
      have HTP := Lib.hid (show treeP xs k = !(decide (labsE (es2 xs k) xs[k].f = labsE (es2 xs k) xs[k].t)) by unfold treeP; rw [getD_of_lt hlt])
      have HY := Lib.hid (fun h => (ixT_yes (p := treeP xs) (k := k) h))
      have HN := Lib.hid (fun h => (ixT_no (p := treeP xs) (k := k) h))
      have hm1b := (HBW.out.cell (p := ⟨b, 1, none⟩) hbl).trans HM.out.2
      have hkI : (k : Int) < (xs.length : Int) := by omega
      generalize xs[k] = a at *
      obtain ⟨sa, f, t, l, se, fr, sh⟩ := a
      dsimp only at c0 c1 c2 c3 c4 c5 c6 hen HTP
      clear hrg
      obtain ⟨fn, rfl⟩ : ∃ fn : Nat, f = fn := ⟨f.toNat, by omega⟩
      obtain ⟨tn, rfl⟩ : ∃ tn : Nat, t = tn := ⟨t.toNat, by omega⟩
      have hf1 : fn < Jn := by omega
      have ht1 : tn < Jn := by omega
      have hfI : (fn : Int) < (Jn : Int) := by omega
      have htI : (tn : Int) < (Jn : Int) := by omega
      have d1 : w2.cell? ⟨g, fn, none⟩ = some (.int .i64 (labsE (es2 xs k) fn)) := by rw [hown.cellAt fn (by omega), partsL_at _ hf1]
      have d2 : w2.cell? ⟨g, tn, none⟩ = some (.int .i64 (labsE (es2 xs k) tn)) := by rw [hown.cellAt tn (by omega), partsL_at _ ht1]
      clear hown hm0 hm1
      generalize labsE (es2 xs k) (fn : Int) = p at *
      generalize labsE (es2 xs k) (tn : Int) = r at *
      have HO2 := Lib.hid (OwnI.below HO.out HD2.out)
      by_cases hpr : p = r
      · have HNN := Lib.hid (show treeL xs (k + 1) = treeL xs k from HN.out (by rw [HTP.out, decide_eq_true hpr]; rfl))
        go_quiet (fail)
        go_wp2
        go_roundw
        case rel => exact ⟨k + 1, by omega, by go_num, by rw [HNN.out]; exact Lib.hid (HO2.out.drewN _), Lib.hid (below_drewN' HBW.out _)⟩
        case measure => simp [intOf]; omega
      · have HYY := Lib.hid (show treeL xs (k + 1) = treeL xs k ++ [(k : Int)] from HY.out (by rw [HTP.out, decide_eq_false hpr]; rfl))
        go_quiet (fail)
        obtain ⟨W1, hW1⟩ : ∃ x, x = w2.drewN nq := ⟨_, rfl⟩
        have HO3 := Lib.hid (show OwnI W1 w.heap.size _ (treeL xs k) by rw [hW1]; exact HO2.out.drewN _)
        have HB3 := Lib.hid (show Below w.heap.size w W1 by rw [hW1]; exact below_drewN' HBW.out _)
        rw [← hW1]
        clear hW1
        have hz3 := HB3.out.size
        go_wp2_with (at_builtin; refine wpList_append_own_at _ rfl _ _ 30 rfl w.heap.size 2 i0 (.int .i64 0) 1 8 Try.underlying30 hi hz0 hz1 hz2 rfl (by decide) _ _ _ rfl (World.ownsRow.alloc HO3.out _) ⟨W1.heap.size, 0, none⟩ 1 1 [.int .i64 (k)] rfl rfl ?c1z ?c2z ?c3z ?c4z ?c5z ?_)
        try (case c1z => intro j u hj; match j, hj with | 0, hj => (simp at hj; subst hj; simp [Addr.add]) | j + 1, hj => (simp at hj))
        try (case c2z => simp [Value.oneCell'])
        try (case c3z => unfold maxLen; omega)
        try (case c4z => omega)
        try (case c5z => first | omega | (simp; omega))
        intro v3 w3 ho3 hg3 _ hl3
        have HO4 := Lib.hid (show OwnI w3 w.heap.size v3 (treeL xs (k + 1)) by rw [HYY.out]; unfold OwnI; rw [ints_snocY, List.length_append]; exact ho3)
        have HB4 := Lib.hid ((HB3.out.alloc HB3.out.size _).grown hg3 (by simp; omega) (fun k hk => (HO3.out.lt k hk).1))
        clear ho3 hg3 hl3
        go_wp2
        go_roundw
        case rel => exact ⟨k + 1, by omega, by go_num, HO4, HB4⟩
        case measure => simp [intOf]; omega
    · obtain rfl : k = xs.length := by omega
      go_wp2
      go_ret
      exact ⟨_, rfl, HO.out, HB.out⟩
end Go.Proofs.Ytjooebiiceillaa
