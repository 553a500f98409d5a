/-
  Contract of slices.Repeat at a row of one number. Conditions: those that the theorem states.
-/
import Derived.Test.YtjooebiiceillaaNh
import Derived.Test.YtjooebiiceillaaGa
import Derived.Test.YtjooebiiceillaaShM
import Derived.Laws.CopyOwn
import Derived.Deep.RegionLaw
namespace Go.Proofs.Ytjooebiiceillaa
open Go.RowKit
set_option linter.unusedVariables false
set_option linter.unusedSimpArgs false

/-- The row, when n of c numbers are laid. -/
def repA (r : Int) (c n : Nat) : List Int := List.replicate n r ++ List.replicate (c - n) 0
theorem repA_len (r : Int) {c n : Nat} (h : n ≤ c) : (repA r c n).length = c := by simp [repA]; omega
theorem repA_all (r : Int) (c : Nat) : repA r c c = List.replicate c r := by simp [repA]
theorem rep_splice (r : Int) {c n m : Nat} (h : n + m ≤ c) : splice (intsV (repA r c n)) n (intsV (List.replicate m r)) = intsV (repA r c (n + m)) := by
  have hl : (intsV (List.replicate m r)).length = m := by simp [intsV]
  unfold splice
  rw [hl]
  unfold intsV
  rw [← List.map_take, ← List.map_drop, ← List.map_append, ← List.map_append]
  congr 1
  unfold repA
  rw [List.take_append_of_le_length (by simp), List.take_of_length_le (by simp), List.drop_append, List.drop_of_length_le (by simp), List.drop_replicate, List.nil_append, List.length_replicate, ← List.append_assoc, List.replicate_append_replicate]
  congr 2
  omega
theorem repA_cell (r : Int) {c n j : Nat} (h : j < n) : (intsV (repA r c n))[j]? = some (.int .i64 r) := by
  simp [intsV, repA, List.getElem?_append, List.getElem?_replicate, h]
theorem wrap_small (x : Int) (h0 : 0 ≤ x) (h1 : x ≤ 1000) : IntKind.i64.wrap x = x := by
  rw [IntKind.wrap_i64]
  omega
theorem mul_one_any (c : Nat) (hc : c ≤ 1000000) (w : World) : Calls Try.prog 140 #[.int .u64 1, .int .u64 (c : Int)] w fun e w' => e = .returned (.tuple #[.int .u64 0, .int .u64 (c : Int)]) ∧ w = w' := by
  refine (Try.bits_Mul 1 c (by omega) (by omega) w).mono ?_
  rintro e w' ⟨rfl, rfl⟩
  refine ⟨?_, rfl⟩
  rw [show 1 * c / 18446744073709551616 = 0 by omega, show 1 * c % 18446744073709551616 = c by omega]
  rfl
set_option maxHeartbeats 400000 in
set_option maxRecDepth 100000 in
theorem repeat_any (v : Value) (r : Int) (c : Nat) (w : World) (hv : Row .i64 w v [r]) (h1 : 1 ≤ c) (h2 : c ≤ 24) :
    Calls Try.prog 131 #[v, .int .i64 (c : Int)] w fun e w' => e = .returned (.slice (some ⟨w.heap.size, 0, none⟩) c c) ∧ w'.ownsRow w.heap.size 2 1 (.slice (some ⟨w.heap.size, 0, none⟩) c c) c (intsV (List.replicate c r)) ∧ Below w.heap.size w w' := by
  obtain ⟨b, off, cap, rfl, hcell⟩ : ∃ b off cap, v = .slice (some ⟨b, off, none⟩) 1 cap ∧ w.cell? ⟨b, off, none⟩ = some (.int .i64 r) := by
    rcases hv with ⟨h, -⟩ | ⟨b, off, c, rfl, hc⟩
    · cases h
    · exact ⟨b, off, c, rfl, by simpa using hc 0 (by simp)⟩
  have HM := Lib.hid (mul_one_any c (by omega) w)
  have hmk := run_make_row' (P := Try.prog) 30 2 (.int .i64 0) 8 Try.underlying30 info_i64 rfl .i64 .i64 c (by omega) (by omega)
  have hm0 : (madeCells #[.int .i64 0] c).toList = intsV (repA r c 0) := by simp [madeCells, intsV, repA, Nat.mod_one, List.map_const']
  have HM0 := Lib.hid hm0
  clear hv hm0
  have t1 : ¬ (9223372036854775807 : Int) < (c : Int) := by omega
  go_enter Try.func131, Try.ntmps131
  go_wp2_with (first
    | (go_at_call 140; refine HM.out.mono ?_; rintro e w' ⟨rfl, rfl⟩)
    | (with_reducible refine wpList_copy_splice rfl _ _ 30 30 rfl 2 Try.underlying30 rfl (some ⟨w.heap.size, 0, none⟩) (some ⟨b, off, none⟩) c c 1 cap ?e1 ?e2 w.heap.size 0 (madeCells #[.int .i64 0] c).toList 2 ?e3 (intsV (List.replicate 1 r)) ?e4 ?e5 ?e6 ?e7 w.heap.size w ?e8 (Nat.le_refl _) ?_))
  case e1 => first | rfl | simp
  case e2 => first | rfl | simp
  case e3 => first | exact (heap_alloc_new w _).trans (by simp) | (simp; done)
  case e4 => (simp [intsV]; exact (Nat.min_eq_left h1).symm)
  case e5 =>
    intro h0
    have hsrc : ∀ (j : Nat) (v : Value), (intsV [r])[j]? = some v → (w.alloc (.cells (madeCells #[.int .i64 0] c) 2)).cell? ⟨b, off + j, none⟩ = some v := by
      intro j v hj
      match j, hj with
      | 0, hj =>
        have hv : Value.int .i64 r = v := by simpa [intsV] using hj
        subst hv
        exact (World.cell?_alloc_past _ _ _ (World.block_lt_of_cell? _ _ hcell)).trans hcell
      | j + 1, hj => simp [intsV] at hj
    first | exact ⟨rfl, _, rfl, hsrc⟩ | exact ⟨_, rfl, hsrc⟩ | simpa using hsrc | exact hsrc
  case e6 => (simp [intsV, madeCells]; first | done | omega)
  case e7 => intro v hv; simp [intsV] at hv; subst hv; rfl
  case e8 => exact (Below.refl _ _).alloc (Nat.le_refl _) _
  intro w2 HG2 hB2
  have HG3 := Lib.hid (show w2.heap[w.heap.size]? = some (.cells (intsV (repA r c 1)).toArray 2 (0, 0)) by
    have h := HG2.out
    rw [HM0.out] at h
    rw [← rep_splice r (c := c) (n := 0) (m := 1) (by omega)]
    exact h)
  clear HG2 hmk HM t1
  go_wp2
  go_loopw [8] (fun i wr => ∃ n : Nat, (1 ≤ n ∧ n ≤ c) ∧ i = .int .i64 n ∧ Hid (wr.heap[w.heap.size]? = some (.cells (intsV (repA r c n)).toArray 2 (0, 0))) ∧ Below w.heap.size w wr) (fun i wr => c - (intOf i).toNat)
  case atStart => exact ⟨1, by omega, (by first | rfl | simp [intsV]), HG3, hB2⟩
  case round =>
    obtain ⟨n, ⟨hn1, hn2⟩, rfl, HG, hbel⟩ := hrel
    by_cases hlt : n < c
    · have t0 : (n : Int) < (c : Int) := by omega
      have t2 : (n : Int) ≤ (c : Int) := by omega
      go_wp2
      have hcn : ¬ c = n := by omega
      obtain ⟨m, hm, hm1, hm2, hm3⟩ : ∃ m, m = Nat.min n (c - n) ∧ 1 ≤ m ∧ n + m ≤ c ∧ m ≤ n := by
        have g1 : min n (c - n) ≤ c - n := Nat.min_le_right _ _
        have g2 : min n (c - n) ≤ n := Nat.min_le_left _ _
        have g3 : 1 ≤ min n (c - n) := by omega
        exact ⟨min n (c - n), rfl, g3, by omega, g2⟩
      have hmin : (intsV (List.replicate m r)).length = Nat.min n (c - n) := by rw [← hm]; simp [intsV]
      have HMN := Lib.hid hm.symm
      have HWR := Lib.hid (show IntKind.i64.wrap ((n : Int) + (m : Int)) = ((n + m : Nat) : Int) by rw [Int.natCast_add]; exact wrap_small _ (by omega) (by omega))
      clear hm
      have hsrc : ∀ (j : Nat) (v : Value), (intsV (List.replicate m r))[j]? = some v → wr.drew.cell? ((⟨w.heap.size, 0, none⟩ : Addr).add j) = some v := by
        intro j v hj
        obtain ⟨hjl, hjv⟩ := List.getElem?_eq_some_iff.1 hj
        have hjm : j < n := Nat.lt_of_lt_of_le (show j < m by simpa [intsV] using hjl) hm3
        have hv : v = .int .i64 r := by rw [← hjv]; simp [intsV]
        subst hv
        have h := BlkV.cell (w := wr) HG.out j
        rw [repA_cell r hjm] at h
        rw [Go.WideShapes.add_plain]
        simpa using h
      have hfit : n + (intsV (List.replicate m r)).length ≤ (intsV (repA r c n)).length := by simp [intsV, repA]; omega
      have hone : ∀ v ∈ intsV (List.replicate m r), v.oneCell' = true := by intro v hv; simp [intsV] at hv; obtain ⟨-, rfl⟩ := hv; rfl
      have hsz : (Try.prog.info? 2).map (·.size) = some 1 := by kernel_rfl
      have hgd : wr.drew.heap[w.heap.size]? = some (.cells (intsV (repA r c n)).toArray 2 (0, 0)) := HG.out
      go_region_law (refine step_copy_splice rfl (.tmp 41) (.tmp 44) 30 30 rfl 2 Try.underlying30 hsz (some ⟨w.heap.size, n, none⟩) (some ⟨w.heap.size, 0, none⟩) (c - n) (c - n) n c (by simp [Act.eval, Act.put, hcn]) (by simp [Act.eval, Act.put]) w.heap.size n (intsV (repA r c n)) 2 hgd (intsV (List.replicate m r)) hmin (fun _ => ⟨rfl, _, rfl, hsrc⟩) hfit hone w.heap.size w (Below.drew hbel) (Nat.le_refl _) ?_; intro w3 HG3 hB3)
      have HG4 := Lib.hid (show w3.heap[w.heap.size]? = some (.cells (intsV (repA r c (n + m))).toArray 2 (0, 0)) by rw [← rep_splice r hm2]; exact HG3.out)
      have hlen : (intsV (List.replicate m r)).length = m := by simp [intsV]
      have HLE := Lib.hid hlen
      clear hmin hsrc hfit hone hsz hgd HG3 hlen
      try go_simp
      try go_wp2
      go_roundw
      case rel => exact ⟨n + m, ⟨by omega, hm2⟩, by rw [HMN.out, HWR.out], HG4, hB3⟩
      case measure => (rw [HMN.out, HWR.out]; simp [intOf]; omega)
    · obtain rfl : n = c := by omega
      have HO := Lib.hid (show wr.ownsRow w.heap.size 2 1 (.slice (some ⟨w.heap.size, 0, none⟩) n n) n (intsV (List.replicate n r)) from ⟨by simp [intsV], .inr ⟨w.heap.size, n, (intsV (repA r n n)).toArray, rfl, Nat.le_refl _, HG.out, by omega, by unfold maxLen; omega, by simp [intsV, repA], by simp [intsV, repA]⟩⟩)
      go_wp2
      go_ret
      exact ⟨rfl, HO.out, hbel⟩
end Go.Proofs.Ytjooebiiceillaa
