/-
  Contract of slices.Clone at numbers: a copy of one's own. Conditions: those that each theorem states.
-/
import Derived.Test.YthbofhlfggkolaaNh
import Derived.Lib.SliceRun
namespace Go.Proofs.Ythbofhlfggkolaa
open Go.RowKit
set_option linter.unusedVariables false
set_option linter.unusedSimpArgs false

theorem row_noneQ {w : World} {n cap : Nat} {xs : List Int} (h : Row .i64 w (.slice none n cap) xs) : xs = [] ∧ n = 0 ∧ cap = 0 := by
  rcases h with ⟨h1, h2⟩ | ⟨b, off, c, h1, -⟩
  · injection h2 with _ h3 h4
    exact ⟨h1, h3, h4⟩
  · injection h1 with h2; cases h2
theorem row_someQ {w : World} {A : Addr} {n cap : Nat} {xs : List Int} (h : Row .i64 w (.slice (some A) n cap) xs) : n = xs.length ∧ ∃ b off, A = ⟨b, off, none⟩ ∧ ∀ j, j < xs.length → w.cell? ⟨b, off + j, none⟩ = some (.int .i64 (xs.getD j 0)) := by
  rcases h with ⟨h1, h2⟩ | ⟨b, off, c, h1, h3⟩
  · injection h2 with h4; cases h4
  · injection h1 with h2 h4 h5
    injection h2 with h2
    exact ⟨h4, b, off, h2, h3⟩
theorem news_cellsQ {w : World} {b off : Nat} {xs : List Int} (h : ∀ j, j < xs.length → w.cell? ⟨b, off + j, none⟩ = some (.int .i64 (xs.getD j 0))) : ∀ (j : Nat) (u : Value), (intsV xs)[j]? = some u → (w.alloc (.cells #[] 2)).cell? ((⟨b, off, none⟩ : Addr).add j) = some u := by
  intro j u hj
  have hjl : j < xs.length := by
    have := (List.getElem?_eq_some_iff.1 hj).1
    simpa [intsV] using this
  have e : u = .int .i64 (xs.getD j 0) := by
    have : (intsV xs)[j]? = some (.int .i64 (xs.getD j 0)) := by simp [intsV, List.getD, hjl]
    rw [this] at hj
    exact (Option.some.inj hj).symm
  have hc := h j hjl
  rw [e]
  have ea : ((⟨b, off, none⟩ : Addr).add j) = ⟨b, off + j, none⟩ := by
    unfold Addr.add
    split
    · rename_i q; subst q; rfl
    · rfl
  rw [ea]
  exact (World.cell?_alloc_old _ _ _ (Nat.ne_of_lt (World.block_lt_of_cell? _ _ hc))).trans hc
theorem ones_intQ (xs : List Int) : ∀ u ∈ intsV xs, u.oneCell' = true := by
  intro u hu
  unfold intsV at hu
  obtain ⟨x, -, rfl⟩ := List.mem_map.1 hu
  rfl
set_option maxHeartbeats 1000000 in
set_option maxRecDepth 100000 in
theorem clone_anyQ (v : Value) (xs : List Int) (w : World) (hv : Row .i64 w v xs) (hl : xs.length ≤ 1048576) :
    Calls Try.prog 93 #[v] w fun e w' => ∃ u, e = .returned u ∧ OwnI w' w.heap.size u xs ∧ Below w.heap.size w w' := by
  obtain ⟨i0, hi, hz0, hz1, hz2⟩ := info_parts info_i64
  have q22 : ∀ (w : World) (a : Option Addr) (n c n' c' : Nat), (binOp .eql 43 (.slice a n c) (.slice none n' c')).run Try.prog w = .ok (.bool a.isNone) w := fun w a n c n' c' => Lib.run_eql_slice_nil w _ _ a n c n' c' Try.underlying43
  obtain ⟨A, cap, rfl⟩ := hv.form
  cases A with
  | none =>
    obtain ⟨rfl, -, rfl⟩ := row_noneQ hv
    go_enter Try.func93, Try.ntmps93
    go_wp2
    go_ret
    exact ⟨_, rfl, World.ownsRow_nil _ _ _ _, Below.refl _ _⟩
  | some A =>
    obtain ⟨-, b, off, rfl, hc⟩ := row_someQ hv
    have HC := Lib.hid (news_cellsQ hc)
    have HL := Lib.hid (show (intsV xs).length = xs.length * 1 by simp [intsV])
    have HN := Lib.hid (show (w.alloc (.cells #[] 2)).ownsRow w.heap.size 2 1 (.slice (some ⟨w.heap.size, 0, none⟩) 0 0) 0 [] from World.ownsRow_lit _ _ 0 (Nat.le_refl _) (by simp [maxLen]) rfl)
    clear hv hc
    go_enter Try.func93, Try.ntmps93
    go_wp2_with (at_builtin; (refine wpList_append_own _ rfl _ _ 43 rfl w.heap.size 2 i0 (.int .i64 0) 1 8 Try.underlying43 hi hz0 hz1 hz2 rfl (by decide) _ 0 [] rfl HN.out ⟨b, off, none⟩ xs.length cap (intsV xs) rfl HL.out HC.out (ones_intQ xs) ?b1 ?b2 ?b3 ?_))
    case b1 => unfold maxLen; omega
    case b2 => omega
    case b3 => (simp)
    intro u w1 ho hg _
    have HO := Lib.hid (show OwnI w1 w.heap.size u xs by unfold OwnI; simpa using ho)
    have HB := Lib.hid (show Below w.heap.size w w1 from ((Below.refl _ _).alloc (Nat.le_refl _) _).grown hg (by simp) (fun k hk => by simp [Value.ownBlock] at hk; omega))
    clear ho hg
    go_wp2
    go_ret
    exact ⟨_, rfl, HO.out, HB.out⟩
end Go.Proofs.Ythbofhlfggkolaa
