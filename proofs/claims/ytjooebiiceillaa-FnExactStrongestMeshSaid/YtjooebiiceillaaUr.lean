/-
  Labels and distances; networks with a map of what is closed. Conditions: those that each theorem states.
-/
import Derived.Test.YtjooebiiceillaaUm
import Derived.Test.YtjooebiiceillaaUf
import Derived.Test.YtjooebiiceillaaQb
import Derived.Test.YtjooebiiceillaaRg
namespace Go.Proofs.Ytjooebiiceillaa
open Go.RowKit
set_option linter.unusedVariables false
set_option linter.unusedSimpArgs false

theorem labS_split {lab : Int → Int} {a b x y : Int} (h : labS lab a b x = labS lab a b y) : lab x = lab y ∨ ((lab x = lab a ∨ lab x = lab b) ∧ (lab y = lab a ∨ lab y = lab b)) := by
  unfold labS at h
  split at h <;> split at h <;> (try split at h) <;> (try split at h) <;> omega
theorem lab_closed (S : Int → Prop) : ∀ E : List (Int × Int), (∀ e ∈ E, (S e.1 ↔ S e.2)) → ∀ x y, labsE E x = labsE E y → (S x ↔ S y)
  | [], _, x, y, h => by
    have h2 : x = y := h
    rw [h2]
  | e :: es, hE, x, y, h => by
    have ih := lab_closed S es (fun e he => hE e (List.mem_cons_of_mem _ he))
    have h0 := hE e List.mem_cons_self
    rcases labS_split (show labS (labsE es) e.1 e.2 x = labS (labsE es) e.1 e.2 y from h) with q | ⟨q1, q2⟩
    · exact ih x y q
    · have a1 : S x ↔ S e.1 := by
        rcases q1 with q | q
        · exact ih _ _ q
        · exact (ih _ _ q).trans h0.symm
      have a2 : S y ↔ S e.1 := by
        rcases q2 with q | q
        · exact ih _ _ q
        · exact (ih _ _ q).trans h0.symm
      exact a1.trans a2.symm
theorem labS_keep {lab : Int → Int} {a b x y : Int} (h : lab x = lab y) : labS lab a b x = labS lab a b y := by unfold labS; rw [h]
theorem labS_join (lab : Int → Int) (a b : Int) : labS lab a b a = labS lab a b b := by
  unfold labS
  split <;> split <;> (try split) <;> (try split) <;> omega
theorem lab_adj : ∀ (E : List (Int × Int)) (a b : Int), (a, b) ∈ E → labsE E a = labsE E b
  | e :: es, a, b, h => by
    rcases List.mem_cons.1 h with q | q
    · subst q
      exact labS_join (labsE es) a b
    · exact labS_keep (lab_adj es a b q)
theorem dist_lab {E E' : List (Int × Int)} {to : Int} {D : Int → Int} (h : Dist E to D) (hE : ∀ e, e ∈ E' ↔ e ∈ E) (j : Int) : 0 ≤ D j ↔ labsE E' j = labsE E' to := by
  constructor
  · intro hj
    have key : ∀ (n : Nat) (j : Int), D j = n → labsE E' j = labsE E' to := by
      intro n
      induction n with
      | zero =>
        intro j e
        by_cases q : j = to
        · rw [q]
        · obtain ⟨i, _, h1, h2⟩ := h.from_ j q (by omega)
          omega
      | succ n ih =>
        intro j e
        by_cases q : j = to
        · rw [q]
        · obtain ⟨i, ha, h1, h2⟩ := h.from_ j q (by omega)
          have h3 := ih i (by omega)
          rcases ha with ha | ha
          · rw [← lab_adj E' i j ((hE _).2 ha)]; exact h3
          · rw [lab_adj E' j i ((hE _).2 ha)]; exact h3
    exact key (D j).toNat j (by omega)
  · intro hl
    have hc := lab_closed (fun x => 0 ≤ D x) E' (fun e he => by
      have he2 := (hE e).1 he
      exact ⟨fun q => (h.near e.1 e.2 (Or.inl he2) q).1, fun q => (h.near e.2 e.1 (Or.inr he2) q).1⟩) j to hl
    exact hc.2 (by have := h.zero; omega)
/-- What a map of Bools tells at the numbers below n. -/
def MapZ {H : Type} (m : DataW H) (p : Nat → Bool) (n : Nat) : Prop :=
  Maps.IsMap m ∧ ∀ (k : Nat), k < n → m.atKey (.int .i64 (k : Int)) (.lit (.bool false)) = .lit (.bool (p k))
theorem MapZ.of {H : Type} {m : DataW H} {p : Nat → Bool} {n : Nat} (h : MapB m p n) : MapZ m p n := ⟨h.1, fun k hk => h.2 k _ hk⟩
theorem MapZ.one {H : Type} (ix n : Nat) : MapZ (H := H) ((DataW.map []).put (.int .i64 (ix : Int)) (.lit (.bool true))) (fun k => decide ((k : Int) = (ix : Int))) n := by
  have h0 : Maps.IsMap (DataW.map ([] : List (Lit × DataW H))) := ⟨[], rfl⟩
  refine ⟨h0.put _ _, fun k _ => ?_⟩
  show _ = DataW.lit (Lit.bool (decide ((k : Int) = (ix : Int))))
  by_cases e : (k : Int) = (ix : Int)
  · rw [e, decide_eq_true rfl]
    exact Maps.atKey_put_same h0 (by trivial) _ _
  · have hne : (Lit.int .i64 (k : Int)) ≠ Lit.int .i64 (ix : Int) := fun h => e (by injection h)
    rw [Maps.atKey_put_other hne, decide_eq_false e]
    rfl
theorem put_del {H : Type} (ix : Int) (v : DataW H) : ((DataW.map ([] : List (Lit × DataW H))).put (.int .i64 ix) v).del (.int .i64 ix) = .map [] := by
  simp [DataW.put, DataW.del, DataW.insert, Lit.sameKey]
set_option maxRecDepth 100000 in
theorem look_boolZ (b c k : Nat) (m : DataW Unit) (p : Nat → Bool) (n : Nat) (W : World) (hm : MapZ m p n) (hown : W.ownsMap (H := Unit) Try.prog 2 (plainElem Try.prog 4) b c m) (hk : k < n) (hn : n ≤ 1000) :
    (Instr.lookup 94 (.map (some b)) (.int .i64 (k : Int)) false).run Try.prog W = .ok (.bool (p k)) W := by
  obtain ⟨v, ps, h1, h2⟩ := hown.lookup (Maps.int_keyed Try.underlying2) Try.underlying94 (zeroBU W) (plainElem_bool Try.underlying4 false) (keyIU (k : Int) (wfU (by omega)))
  rw [hm.2 k hk] at h2
  unfold plainElem at h2
  rw [Try.underlying4] at h2
  cases v <;> simp at h2
  rw [h1, h2.1]
set_option maxRecDepth 100000 in
theorem isOpenZ_any (J : Int) (A : Option Addr) (n cap b c k : Nat) (m : DataW Unit) (p : Nat → Bool) (w : World) (hm : MapZ m p n) (hown : w.ownsMap (H := Unit) Try.prog 2 (plainElem Try.prog 4) b c m) (hk : k < n) (hn : n ≤ 1000) :
    Calls Try.prog 133 #[.agg #[.int .i64 J, .slice A n cap, .map (some b)], .int .i64 (k : Int)] w fun e w' => e = .returned (.bool (!(p k))) ∧ Below w.heap.size w w' := by
  have hrun := look_boolZ b c k m p n (w.alloc (.cells #[.int .i64 J, .slice A n cap, .map (some b)] 96)) hm (hown.alloc _) hk hn
  go_enter Try.func133, Try.ntmps133
  go_wp2
  go_ret
  exact ⟨by first | rfl | simp, below_box _ _⟩
set_option maxHeartbeats 2000000 in
set_option maxRecDepth 100000 in
theorem openAt1Z_any (bn bj g off n cap k b c : Nat) (J x : Int) (m : DataW Unit) (p : Nat → Bool) (s : ByteArray) (f t l se fr sh : Int) (w : World) (hk : k < n) (hn : n ≤ 1000) (hm : MapZ m p n) (hown : w.ownsMap (H := Unit) Try.prog 2 (plainElem Try.prog 4) b c m) (hc : (w.cell? ⟨bn, 0, none⟩ = some (.int .i64 J) ∧ w.cell? ⟨bn, 1, none⟩ = some (.slice (some ⟨g, off, none⟩) n cap) ∧ w.cell? ⟨bn, 2, none⟩ = some (.map (some b)) ∧ w.cell? ⟨bj, 0, none⟩ = some (.int .i64 x)) ∧ (w.cell? ⟨g, off + k * 7, none⟩ = some (.string s) ∧ w.cell? ⟨g, off + k * 7 + 1, none⟩ = some (.int .i64 f) ∧ w.cell? ⟨g, off + k * 7 + 2, none⟩ = some (.int .i64 t) ∧ w.cell? ⟨g, off + k * 7 + 3, none⟩ = some (.int .i64 l)) ∧ w.cell? ⟨g, off + k * 7 + 4, none⟩ = some (.int .i64 se) ∧ w.cell? ⟨g, off + k * 7 + 5, none⟩ = some (.int .i64 fr) ∧ w.cell? ⟨g, off + k * 7 + 6, none⟩ = some (.int .i64 sh)) :
    Calls Try.prog 132 #[.int .i64 (k : Int), .pointer (some ⟨bn, 0, none⟩), .pointer (some ⟨bj, 0, none⟩)] w fun e w' => e = .returned (.bool (!(p k) && endB f t x)) ∧ Below w.heap.size w w' := by
  have HC := Lib.hid hc
  have HMZ := Lib.hid hm
  have HOM := Lib.hid hown
  obtain ⟨⟨n0, n1, n2, n3⟩, ⟨c0, c1, c2, c3⟩, c4, c5, c6⟩ := hc
  have t1 : (k : Int) < (n : Int) := by omega
  have t2 : 0 ≤ (k : Int) := by omega
  clear hm hown
  cases hp : p k
  · go_enter Try.func132, Try.ntmps132
    go_wp2_with fail
    refine wp_region_held (S := fun w' => ((w'.cell? ⟨bn, 0, none⟩ = some (.int .i64 J) ∧ w'.cell? ⟨bn, 1, none⟩ = some (.slice (some ⟨g, off, none⟩) n cap) ∧ w'.cell? ⟨bn, 2, none⟩ = some (.map (some b)) ∧ w'.cell? ⟨bj, 0, none⟩ = some (.int .i64 x)) ∧ (w'.cell? ⟨g, off + k * 7, none⟩ = some (.string s) ∧ w'.cell? ⟨g, off + k * 7 + 1, none⟩ = some (.int .i64 f) ∧ w'.cell? ⟨g, off + k * 7 + 2, none⟩ = some (.int .i64 t) ∧ w'.cell? ⟨g, off + k * 7 + 3, none⟩ = some (.int .i64 l)) ∧ w'.cell? ⟨g, off + k * 7 + 4, none⟩ = some (.int .i64 se) ∧ w'.cell? ⟨g, off + k * 7 + 5, none⟩ = some (.int .i64 fr) ∧ w'.cell? ⟨g, off + k * 7 + 6, none⟩ = some (.int .i64 sh)) ∧ Below w.heap.size w w') (by kernel_rfl) ?_
    try (change wpAnyH _ _ _ _ _ _ _ _ (World.drew _))
    have hS0 := (show ((w.drew.cell? ⟨bn, 0, none⟩ = some (.int .i64 J) ∧ w.drew.cell? ⟨bn, 1, none⟩ = some (.slice (some ⟨g, off, none⟩) n cap) ∧ w.drew.cell? ⟨bn, 2, none⟩ = some (.map (some b)) ∧ w.drew.cell? ⟨bj, 0, none⟩ = some (.int .i64 x)) ∧ (w.drew.cell? ⟨g, off + k * 7, none⟩ = some (.string s) ∧ w.drew.cell? ⟨g, off + k * 7 + 1, none⟩ = some (.int .i64 f) ∧ w.drew.cell? ⟨g, off + k * 7 + 2, none⟩ = some (.int .i64 t) ∧ w.drew.cell? ⟨g, off + k * 7 + 3, none⟩ = some (.int .i64 l)) ∧ w.drew.cell? ⟨g, off + k * 7 + 4, none⟩ = some (.int .i64 se) ∧ w.drew.cell? ⟨g, off + k * 7 + 5, none⟩ = some (.int .i64 fr) ∧ w.drew.cell? ⟨g, off + k * 7 + 6, none⟩ = some (.int .i64 sh)) ∧ Below w.heap.size w w.drew from ⟨HC.out, Below.drew (Below.refl _ _)⟩)
    refine gTake 0 (v := ?_) rfl (by kernel_rfl) (by kernel_rfl) (by kernel_rfl) (fun _ _ _ h => h) (by kernel_rfl) ?_ hS0 ?_
    rotate_left
    · (intro W hW; have q0 := hW.1.1.1; have q1 := hW.1.1.2.1; have q2 := hW.1.1.2.2.1; have q3 := hW.1.1.2.2.2; have q4 := hW.1.2.1.1; have q5 := hW.1.2.1.2.1; have q6 := hW.1.2.1.2.2.1; have q7 := hW.1.2.1.2.2.2; have q8 := hW.1.2.2.1; have q9 := hW.1.2.2.2.1; have q10 := hW.1.2.2.2.2; clear hW; go_simp; try with_reducible rfl)
    refine gTake 1 (v := ?_) rfl (by kernel_rfl) (by kernel_rfl) (by kernel_rfl) (fun _ _ _ h => h) (by kernel_rfl) ?_ hS0 ?_
    rotate_left
    · (intro W hW; clear hW; go_simp; try with_reducible rfl)
    refine gOne 2 rfl (by kernel_rfl) (by kernel_rfl) (fun K hK => ?_)
    go_simp
    go_at_call 133
    (with_reducible refine (isOpenZ_any J (some ⟨g, off, none⟩) n cap b c k m p _ HMZ.out (ownsMap_below HOM.out hS0.2) hk hn).mono ?_)
    rw [hp]
    rintro e w2 ⟨rfl, hd2⟩
    try go_simp
    have hS1 := (show ((w2.cell? ⟨bn, 0, none⟩ = some (.int .i64 J) ∧ w2.cell? ⟨bn, 1, none⟩ = some (.slice (some ⟨g, off, none⟩) n cap) ∧ w2.cell? ⟨bn, 2, none⟩ = some (.map (some b)) ∧ w2.cell? ⟨bj, 0, none⟩ = some (.int .i64 x)) ∧ (w2.cell? ⟨g, off + k * 7, none⟩ = some (.string s) ∧ w2.cell? ⟨g, off + k * 7 + 1, none⟩ = some (.int .i64 f) ∧ w2.cell? ⟨g, off + k * 7 + 2, none⟩ = some (.int .i64 t) ∧ w2.cell? ⟨g, off + k * 7 + 3, none⟩ = some (.int .i64 l)) ∧ w2.cell? ⟨g, off + k * 7 + 4, none⟩ = some (.int .i64 se) ∧ w2.cell? ⟨g, off + k * 7 + 5, none⟩ = some (.int .i64 fr) ∧ w2.cell? ⟨g, off + k * 7 + 6, none⟩ = some (.int .i64 sh)) ∧ Below w.heap.size w w2 from ⟨⟨⟨cellK1 hS0.1.1.1 hd2, cellK1 hS0.1.1.2.1 hd2, cellK1 hS0.1.1.2.2.1 hd2, cellK1 hS0.1.1.2.2.2 hd2⟩, ⟨cellK1 hS0.1.2.1.1 hd2, cellK1 hS0.1.2.1.2.1 hd2, cellK1 hS0.1.2.1.2.2.1 hd2, cellK1 hS0.1.2.1.2.2.2 hd2⟩, cellK1 hS0.1.2.2.1 hd2, cellK1 hS0.1.2.2.2.1 hd2, cellK1 hS0.1.2.2.2.2 hd2⟩, hS0.2.trans (hd2.mono hS0.2.size)⟩)
    refine hK _ _ hS1 ?_
    clear hK K
    refine gTake 3 (v := ?_) rfl (by kernel_rfl) (by kernel_rfl) (by kernel_rfl) (fun _ _ _ h => h) (by kernel_rfl) ?_ hS1 ?_
    rotate_left
    · (intro W hW; clear hW; go_simp; try with_reducible rfl)
    refine gTake 4 (v := ?_) rfl (by kernel_rfl) (by kernel_rfl) (by kernel_rfl) (fun _ _ _ h => h) (by kernel_rfl) ?_ hS1 ?_
    rotate_left
    · (intro W hW; clear hW; go_simp; try with_reducible rfl)
    refine gTake 5 (v := ?_) rfl (by kernel_rfl) (by kernel_rfl) (by kernel_rfl) (fun _ _ _ h => h) (by kernel_rfl) ?_ hS1 ?_
    rotate_left
    · (intro W hW; clear hW; go_simp; try with_reducible rfl)
    refine gTake 6 (v := ?_) rfl (by kernel_rfl) (by kernel_rfl) (by kernel_rfl) (fun _ _ _ h => h) (by kernel_rfl) ?_ hS1 ?_
    rotate_left
    · (intro W hW; have q0 := hW.1.1.1; have q1 := hW.1.1.2.1; have q2 := hW.1.1.2.2.1; have q3 := hW.1.1.2.2.2; have q4 := hW.1.2.1.1; have q5 := hW.1.2.1.2.1; have q6 := hW.1.2.1.2.2.1; have q7 := hW.1.2.1.2.2.2; have q8 := hW.1.2.2.1; have q9 := hW.1.2.2.2.1; have q10 := hW.1.2.2.2.2; clear hW; go_simp; try with_reducible rfl)
    refine gTake 7 (v := ?_) rfl (by kernel_rfl) (by kernel_rfl) (by kernel_rfl) (fun _ _ _ h => h) (by kernel_rfl) ?_ hS1 ?_
    rotate_left
    · (intro W hW; clear hW; go_simp; try with_reducible rfl)
    refine gTake 8 (v := ?_) rfl (by kernel_rfl) (by kernel_rfl) (by kernel_rfl) (fun _ _ _ h => h) (by kernel_rfl) ?_ hS1 ?_
    rotate_left
    · (intro W hW; clear hW; go_simp; try with_reducible rfl)
    refine gTake 9 (v := ?_) rfl (by kernel_rfl) (by kernel_rfl) (by kernel_rfl) (fun _ _ _ h => h) (by kernel_rfl) ?_ hS1 ?_
    rotate_left
    · (intro W hW; have q0 := hW.1.1.1; have q1 := hW.1.1.2.1; have q2 := hW.1.1.2.2.1; have q3 := hW.1.1.2.2.2; have q4 := hW.1.2.1.1; have q5 := hW.1.2.1.2.1; have q6 := hW.1.2.1.2.2.1; have q7 := hW.1.2.1.2.2.2; have q8 := hW.1.2.2.1; have q9 := hW.1.2.2.2.1; have q10 := hW.1.2.2.2.2; clear hW; go_simp; try with_reducible rfl)
    refine gTake 10 (v := ?_) rfl (by kernel_rfl) (by kernel_rfl) (by kernel_rfl) (fun _ _ _ h => h) (by kernel_rfl) ?_ hS1 ?_
    rotate_left
    · (intro W hW; have q0 := hW.1.1.1; have q1 := hW.1.1.2.1; have q2 := hW.1.1.2.2.1; have q3 := hW.1.1.2.2.2; have q4 := hW.1.2.1.1; have q5 := hW.1.2.1.2.1; have q6 := hW.1.2.1.2.2.1; have q7 := hW.1.2.1.2.2.2; have q8 := hW.1.2.2.1; have q9 := hW.1.2.2.2.1; have q10 := hW.1.2.2.2.2; clear hW; go_simp; try with_reducible rfl)
    refine gOne 11 rfl (by kernel_rfl) (by kernel_rfl) (fun K hK => ?_)
    go_simp
    go_at_call 134
    (with_reducible refine (endsAt_any s f t l se fr sh x _).mono ?_)
    rintro e w3 ⟨rfl, hd3⟩
    try go_simp
    have hS2 := (show ((w3.cell? ⟨bn, 0, none⟩ = some (.int .i64 J) ∧ w3.cell? ⟨bn, 1, none⟩ = some (.slice (some ⟨g, off, none⟩) n cap) ∧ w3.cell? ⟨bn, 2, none⟩ = some (.map (some b)) ∧ w3.cell? ⟨bj, 0, none⟩ = some (.int .i64 x)) ∧ (w3.cell? ⟨g, off + k * 7, none⟩ = some (.string s) ∧ w3.cell? ⟨g, off + k * 7 + 1, none⟩ = some (.int .i64 f) ∧ w3.cell? ⟨g, off + k * 7 + 2, none⟩ = some (.int .i64 t) ∧ w3.cell? ⟨g, off + k * 7 + 3, none⟩ = some (.int .i64 l)) ∧ w3.cell? ⟨g, off + k * 7 + 4, none⟩ = some (.int .i64 se) ∧ w3.cell? ⟨g, off + k * 7 + 5, none⟩ = some (.int .i64 fr) ∧ w3.cell? ⟨g, off + k * 7 + 6, none⟩ = some (.int .i64 sh)) ∧ Below w.heap.size w w3 from ⟨⟨⟨cellK1 hS1.1.1.1 hd3, cellK1 hS1.1.1.2.1 hd3, cellK1 hS1.1.1.2.2.1 hd3, cellK1 hS1.1.1.2.2.2 hd3⟩, ⟨cellK1 hS1.1.2.1.1 hd3, cellK1 hS1.1.2.1.2.1 hd3, cellK1 hS1.1.2.1.2.2.1 hd3, cellK1 hS1.1.2.1.2.2.2 hd3⟩, cellK1 hS1.1.2.2.1 hd3, cellK1 hS1.1.2.2.2.1 hd3, cellK1 hS1.1.2.2.2.2 hd3⟩, hS1.2.trans (hd3.mono hS1.2.size)⟩)
    refine hK _ _ hS2 ?_
    clear hK K
    refine gTake 12 (v := ?_) rfl (by kernel_rfl) (by kernel_rfl) (by kernel_rfl) (fun _ _ _ h => h) (by kernel_rfl) ?_ hS2 ?_
    rotate_left
    · (intro W hW; clear hW; go_simp; try with_reducible rfl)
    refine gTake 13 (v := ?_) rfl (by kernel_rfl) (by kernel_rfl) (by kernel_rfl) (fun _ _ _ h => h) (by kernel_rfl) ?_ hS2 ?_
    rotate_left
    · (intro W hW; clear hW; go_simp; try with_reducible rfl)
    refine wpAnyH_done (by kernel_rfl) ?_ _
    go_simp
    go_wp2
    go_ret
    exact ⟨by first | rfl | simp, hS2.2⟩
  · go_enter Try.func132, Try.ntmps132
    go_wp2_with fail
    refine wp_region_held (S := fun w' => ((w'.cell? ⟨bn, 0, none⟩ = some (.int .i64 J) ∧ w'.cell? ⟨bn, 1, none⟩ = some (.slice (some ⟨g, off, none⟩) n cap) ∧ w'.cell? ⟨bn, 2, none⟩ = some (.map (some b)) ∧ w'.cell? ⟨bj, 0, none⟩ = some (.int .i64 x)) ∧ (w'.cell? ⟨g, off + k * 7, none⟩ = some (.string s) ∧ w'.cell? ⟨g, off + k * 7 + 1, none⟩ = some (.int .i64 f) ∧ w'.cell? ⟨g, off + k * 7 + 2, none⟩ = some (.int .i64 t) ∧ w'.cell? ⟨g, off + k * 7 + 3, none⟩ = some (.int .i64 l)) ∧ w'.cell? ⟨g, off + k * 7 + 4, none⟩ = some (.int .i64 se) ∧ w'.cell? ⟨g, off + k * 7 + 5, none⟩ = some (.int .i64 fr) ∧ w'.cell? ⟨g, off + k * 7 + 6, none⟩ = some (.int .i64 sh)) ∧ Below w.heap.size w w') (by kernel_rfl) ?_
    try (change wpAnyH _ _ _ _ _ _ _ _ (World.drew _))
    have hS0 := (show ((w.drew.cell? ⟨bn, 0, none⟩ = some (.int .i64 J) ∧ w.drew.cell? ⟨bn, 1, none⟩ = some (.slice (some ⟨g, off, none⟩) n cap) ∧ w.drew.cell? ⟨bn, 2, none⟩ = some (.map (some b)) ∧ w.drew.cell? ⟨bj, 0, none⟩ = some (.int .i64 x)) ∧ (w.drew.cell? ⟨g, off + k * 7, none⟩ = some (.string s) ∧ w.drew.cell? ⟨g, off + k * 7 + 1, none⟩ = some (.int .i64 f) ∧ w.drew.cell? ⟨g, off + k * 7 + 2, none⟩ = some (.int .i64 t) ∧ w.drew.cell? ⟨g, off + k * 7 + 3, none⟩ = some (.int .i64 l)) ∧ w.drew.cell? ⟨g, off + k * 7 + 4, none⟩ = some (.int .i64 se) ∧ w.drew.cell? ⟨g, off + k * 7 + 5, none⟩ = some (.int .i64 fr) ∧ w.drew.cell? ⟨g, off + k * 7 + 6, none⟩ = some (.int .i64 sh)) ∧ Below w.heap.size w w.drew from ⟨HC.out, Below.drew (Below.refl _ _)⟩)
    refine gTake 0 (v := ?_) rfl (by kernel_rfl) (by kernel_rfl) (by kernel_rfl) (fun _ _ _ h => h) (by kernel_rfl) ?_ hS0 ?_
    rotate_left
    · (intro W hW; have q0 := hW.1.1.1; have q1 := hW.1.1.2.1; have q2 := hW.1.1.2.2.1; have q3 := hW.1.1.2.2.2; have q4 := hW.1.2.1.1; have q5 := hW.1.2.1.2.1; have q6 := hW.1.2.1.2.2.1; have q7 := hW.1.2.1.2.2.2; have q8 := hW.1.2.2.1; have q9 := hW.1.2.2.2.1; have q10 := hW.1.2.2.2.2; clear hW; go_simp; try with_reducible rfl)
    refine gTake 1 (v := ?_) rfl (by kernel_rfl) (by kernel_rfl) (by kernel_rfl) (fun _ _ _ h => h) (by kernel_rfl) ?_ hS0 ?_
    rotate_left
    · (intro W hW; clear hW; go_simp; try with_reducible rfl)
    refine gOne 2 rfl (by kernel_rfl) (by kernel_rfl) (fun K hK => ?_)
    go_simp
    go_at_call 133
    (with_reducible refine (isOpenZ_any J (some ⟨g, off, none⟩) n cap b c k m p _ HMZ.out (ownsMap_below HOM.out hS0.2) hk hn).mono ?_)
    rw [hp]
    rintro e w2 ⟨rfl, hd2⟩
    try go_simp
    have hS1 := (show ((w2.cell? ⟨bn, 0, none⟩ = some (.int .i64 J) ∧ w2.cell? ⟨bn, 1, none⟩ = some (.slice (some ⟨g, off, none⟩) n cap) ∧ w2.cell? ⟨bn, 2, none⟩ = some (.map (some b)) ∧ w2.cell? ⟨bj, 0, none⟩ = some (.int .i64 x)) ∧ (w2.cell? ⟨g, off + k * 7, none⟩ = some (.string s) ∧ w2.cell? ⟨g, off + k * 7 + 1, none⟩ = some (.int .i64 f) ∧ w2.cell? ⟨g, off + k * 7 + 2, none⟩ = some (.int .i64 t) ∧ w2.cell? ⟨g, off + k * 7 + 3, none⟩ = some (.int .i64 l)) ∧ w2.cell? ⟨g, off + k * 7 + 4, none⟩ = some (.int .i64 se) ∧ w2.cell? ⟨g, off + k * 7 + 5, none⟩ = some (.int .i64 fr) ∧ w2.cell? ⟨g, off + k * 7 + 6, none⟩ = some (.int .i64 sh)) ∧ Below w.heap.size w w2 from ⟨⟨⟨cellK1 hS0.1.1.1 hd2, cellK1 hS0.1.1.2.1 hd2, cellK1 hS0.1.1.2.2.1 hd2, cellK1 hS0.1.1.2.2.2 hd2⟩, ⟨cellK1 hS0.1.2.1.1 hd2, cellK1 hS0.1.2.1.2.1 hd2, cellK1 hS0.1.2.1.2.2.1 hd2, cellK1 hS0.1.2.1.2.2.2 hd2⟩, cellK1 hS0.1.2.2.1 hd2, cellK1 hS0.1.2.2.2.1 hd2, cellK1 hS0.1.2.2.2.2 hd2⟩, hS0.2.trans (hd2.mono hS0.2.size)⟩)
    refine hK _ _ hS1 ?_
    clear hK K
    refine gTake 3 (v := ?_) rfl (by kernel_rfl) (by kernel_rfl) (by kernel_rfl) (fun _ _ _ h => h) (by kernel_rfl) ?_ hS1 ?_
    rotate_left
    · (intro W hW; clear hW; go_simp; try with_reducible rfl)
    refine gSkip 4 rfl (by kernel_rfl) (by kernel_rfl) (by kernel_rfl) (fun _ _ _ h => h) (by kernel_rfl) hS1 ?_
    refine gSkip 5 rfl (by kernel_rfl) (by kernel_rfl) (by kernel_rfl) (fun _ _ _ h => h) (by kernel_rfl) hS1 ?_
    refine gSkip 6 rfl (by kernel_rfl) (by kernel_rfl) (by kernel_rfl) (fun _ _ _ h => h) (by kernel_rfl) hS1 ?_
    refine gSkip 7 rfl (by kernel_rfl) (by kernel_rfl) (by kernel_rfl) (fun _ _ _ h => h) (by kernel_rfl) hS1 ?_
    refine gSkip 8 rfl (by kernel_rfl) (by kernel_rfl) (by kernel_rfl) (fun _ _ _ h => h) (by kernel_rfl) hS1 ?_
    refine gSkip 9 rfl (by kernel_rfl) (by kernel_rfl) (by kernel_rfl) (fun _ _ _ h => h) (by kernel_rfl) hS1 ?_
    refine gSkip 10 rfl (by kernel_rfl) (by kernel_rfl) (by kernel_rfl) (fun _ _ _ h => h) (by kernel_rfl) hS1 ?_
    refine gSkip 11 rfl (by kernel_rfl) (by kernel_rfl) (by kernel_rfl) (fun _ _ _ h => h) (by kernel_rfl) hS1 ?_
    refine gTake 12 (v := ?_) rfl (by kernel_rfl) (by kernel_rfl) (by kernel_rfl) (fun _ _ _ h => h) (by kernel_rfl) ?_ hS1 ?_
    rotate_left
    · (intro W hW; clear hW; go_simp; try with_reducible rfl)
    refine gTake 13 (v := ?_) rfl (by kernel_rfl) (by kernel_rfl) (by kernel_rfl) (fun _ _ _ h => h) (by kernel_rfl) ?_ hS1 ?_
    rotate_left
    · (intro W hW; clear hW; go_simp; try with_reducible rfl)
    refine wpAnyH_done (by kernel_rfl) ?_ _
    go_simp
    go_wp2
    go_ret
    exact ⟨by first | rfl | simp, hS1.2⟩
set_option maxHeartbeats 2000000 in
set_option maxRecDepth 100000 in
theorem thatOpZ (bn bj : Nat) (p : Nat → Bool) (J : Int) (A : Option Addr) (n cap : Nat) (w : World) (hn : n ≤ 1048576)
    (hf : ∀ (k : Nat) (w1 : World), k < n → Below w.heap.size w w1 → Calls Try.prog 132 #[.int .i64 (k : Int), .pointer (some ⟨bn, 0, none⟩), .pointer (some ⟨bj, 0, none⟩)] w1 fun e w2 => e = .returned (.bool (p k)) ∧ Below w1.heap.size w1 w2) :
    Calls Try.prog 91 #[.agg #[.int .i64 J, .slice A n cap], .func (.func 132) #[] #[.pointer (some ⟨bn, 0, none⟩), .pointer (some ⟨bj, 0, none⟩)]] w fun e w' => ∃ v, e = .returned v ∧ OwnI w' w.heap.size v (ixT p n) ∧ Below w.heap.size w w' := by
  have HF := Lib.hid hf
  obtain ⟨i0, hi, hz0, hz1, hz2⟩ := info_parts info_i64
  have HB0 := Lib.hid (below_box w (.cells #[.int .i64 J, .slice A n cap] 36))
  clear hf
  go_enter Try.func91, Try.ntmps91
  go_wp2
  go_loopw [5, 10] (fun out i wr => ∃ k : Nat, k ≤ n ∧ i = .int .i64 k ∧ wr.ownsRow w.heap.size 2 1 out (ixT p k).length (intsV (ixT p k)) ∧ Below w.heap.size w wr) (fun out i wr => n - (intOf i).toNat)
  case atStart => exact ⟨0, by omega, rfl, World.ownsRow_nil _ _ _ _, HB0.out⟩
  case round =>
    obtain ⟨k, hk, rfl, hown, hbel⟩ := hrel
    by_cases hlt : k < n
    · have HX := Lib.hid (HF.out k wr hlt hbel)
      have hll := ixT_len p k
      have HO := Lib.hid hown
      have HBL := Lib.hid hbel
      have hwr : w.heap.size ≤ wr.heap.size := hbel.size
      clear hown hbel
      cases he : p k
      · rw [he] at HX
        have HN := Lib.hid (ixT_no he)
        clear he
        go_wp2_with fail
        (with_reducible refine (HX.out).mono ?_)
        rintro e w2 ⟨rfl, hb2⟩
        have HO2 := Lib.hid (own_below HO.out hb2)
        have HB2 := Lib.hid (HBL.out.trans (hb2.mono HBL.out.size))
        clear hb2
        go_wp2
        go_roundw
        case rel => exact ⟨k + 1, by omega, by go_num, by rw [HN.out]; exact HO2.out, HB2.out⟩
        case measure => simp [intOf]; omega
      · rw [he] at HX
        have HN := Lib.hid (ixT_yes he)
        clear he
        go_wp2_with fail
        (with_reducible refine (HX.out).mono ?_)
        rintro e w2 ⟨rfl, hb2⟩
        have HO2 := Lib.hid (own_below HO.out hb2)
        have HB2 := Lib.hid (HBL.out.trans (hb2.mono HBL.out.size))
        have hw2 : w.heap.size ≤ w2.heap.size := HB2.out.size
        clear hb2
        go_wp2_with (first
          | (at_builtin; refine wpList_append_own_at _ rfl _ _ 30 rfl w.heap.size 2 i0 (.int .i64 0) 1 8 Try.underlying30 hi hz0 hz1 hz2 rfl (by decide) _ _ _ rfl (HO2.out.alloc _) ⟨w2.heap.size, 0, none⟩ 1 1 [.int .i64 (k)] rfl rfl ?c1z ?c2z ?c3z ?c4z ?c5z ?_))
        case c1z => intro j u hj; match j, hj with | 0, hj => (simp at hj; subst hj; simp [Addr.add]) | j + 1, hj => (simp at hj)
        case c2z => simp [Value.oneCell']
        case c3z => unfold maxLen; omega
        case c4z => omega
        case c5z => (simp; omega)
        intro v3 w3 ho3 hg3 _ hl3
        have HO3 := Lib.hid ho3
        have HB3 := Lib.hid ((HB2.out.alloc HB2.out.size _).grown hg3 (by simp; omega) (fun k hk => (HO2.out.lt k hk).1))
        clear ho3 hg3 hl3
        go_wp2
        go_roundw
        case rel => exact ⟨k + 1, by omega, by go_num, by rw [HN.out, ints_snocY, List.length_append]; exact HO3.out, HB3.out⟩
        case measure => simp [intOf]; omega
    · obtain rfl : k = n := by omega
      have HO := Lib.hid hown
      have HBL := Lib.hid hbel
      clear hown hbel
      go_wp2
      go_ret
      exact ⟨_, rfl, HO.out, HBL.out⟩
set_option maxHeartbeats 2000000 in
set_option maxRecDepth 100000 in
theorem openAtZ_any (J x : Int) (A : Option Addr) (cap b c : Nat) (m : DataW Unit) (p : Nat → Bool) (xs : List Aw) (w : World) (hn : xs.length ≤ 1000) (hr : AwR w A xs) (hm : MapZ m p xs.length) (hown : w.ownsMap (H := Unit) Try.prog 2 (plainElem Try.prog 4) b c m) :
    Calls Try.prog 121 #[.agg #[.int .i64 J, .slice A xs.length cap, .map (some b)], .int .i64 x] w fun e w' => ∃ v, e = .returned v ∧ OwnI w' w.heap.size v (opnL xs (fun k => !(p k)) x) ∧ Below w.heap.size w w' := by
  have HB0 := Lib.hid (show Below w.heap.size w ((w.alloc (.cells #[.int .i64 J, .slice A xs.length cap, .map (some b)] 96)).alloc (.cells #[.int .i64 x] 2)) from (below_box _ _).alloc (by simp) _)
  have HF := Lib.hid (show ∀ (k : Nat) (w1 : World), k < xs.length → Below ((w.alloc (.cells #[.int .i64 J, .slice A xs.length cap, .map (some b)] 96)).alloc (.cells #[.int .i64 x] 2)).heap.size ((w.alloc (.cells #[.int .i64 J, .slice A xs.length cap, .map (some b)] 96)).alloc (.cells #[.int .i64 x] 2)) w1 → Calls Try.prog 132 #[.int .i64 (k : Int), .pointer (some ⟨w.heap.size, 0, none⟩), .pointer (some ⟨w.heap.size + 1, 0, none⟩)] w1 fun e w2 => e = .returned (.bool ((fun k => !(p k) && endK xs x k) k)) ∧ Below w1.heap.size w1 w2 from by
    intro k W1 hk hb
    have hb0 := HB0.out.trans (hb.mono HB0.out.size)
    obtain ⟨g, off, rfl, hrg⟩ := (hr.below hb0) k hk
    have hct := lay_row hrg
    have hcw : W1.cell? ⟨w.heap.size, 0, none⟩ = some (.int .i64 J) ∧ W1.cell? ⟨w.heap.size, 1, none⟩ = some (.slice (some ⟨g, off, none⟩) xs.length cap) ∧ W1.cell? ⟨w.heap.size, 2, none⟩ = some (.map (some b)) ∧ W1.cell? ⟨w.heap.size + 1, 0, none⟩ = some (.int .i64 x) :=
      ⟨cellK1 (by simp) hb, cellK1 (by simp) hb, cellK1 (by simp) hb, cellK1 (by simp) hb⟩
    have he : endK xs x k = endB xs[k].f xs[k].t x := by unfold endK endB; rw [getD_of_lt hk, Bool.eq_iff_iff]; simp
    show Calls _ _ _ _ fun e w2 => e = .returned (.bool (!(p k) && endK xs x k)) ∧ _
    rw [he]
    exact openAt1Z_any _ _ g off xs.length cap k b c J x m p xs[k].s xs[k].f xs[k].t _ _ _ _ W1 hk hn hm (ownsMap_below hown hb0) ⟨hcw, hct⟩)
  clear hr hm hown
  go_enter Try.func121, Try.ntmps121
  go_wp2_with fail
  (with_reducible refine (thatOpZ w.heap.size (w.heap.size + 1) (fun k => !(p k) && endK xs x k) J A xs.length cap _ (by omega) HF.out).mono ?_)
  rintro e w1 ⟨v, rfl, ho, hb⟩
  have HO := Lib.hid (show OwnI w1 w.heap.size v (opnL xs (fun k => !(p k)) x) from own_le ho (by simp <;> omega : w.heap.size ≤ _))
  have HB := Lib.hid (HB0.out.trans (hb.mono (by simp <;> omega)))
  clear ho hb
  go_wp2
  go_ret
  exact ⟨_, rfl, HO.out, HB.out⟩
end Go.Proofs.Ytjooebiiceillaa
