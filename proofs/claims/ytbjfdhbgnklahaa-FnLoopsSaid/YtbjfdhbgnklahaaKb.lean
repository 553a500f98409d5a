/-
  Contracts of chapter 5: loops that are closed; the model's and the program's. Conditions: those that each theorem states.
-/
import Derived.Test.YtbjfdhbgnklahaaKa
namespace Go.Proofs.Ytbjfdhbgnklahaa
open Go.RowKit
set_option linter.unusedVariables false
set_option linter.unusedSimpArgs false

/-- The rest ahead of the drop k, of n drops. -/
def restK (n : Nat) (s : Int) : Nat → Int
  | 0 => s
  | k + 1 => restK n s k - (restK n s k).tdiv ((n : Int) - (k : Int))
/-- The drops of a loop that is closed, from the drop k on. -/
def closeF (xs : List Int) (k : Nat) : Int := xs.getD k 0 - (restK xs.length xs.sum k).tdiv ((xs.length : Int) - (k : Int))
def closeL (xs : List Int) : List Int := (List.range xs.length).map (closeF xs)
theorem closeL_len (xs : List Int) : (closeL xs).length = xs.length := by simp [closeL]
theorem closeL_get (xs : List Int) (k : Nat) (h : k < (closeL xs).length) : (closeL xs)[k] = closeF xs k := by simp [closeL]
theorem tdiv_bd (a m : Int) (h : 1 ≤ m) (B : Int) (hb : -B ≤ a ∧ a ≤ B) : -B ≤ a.tdiv m ∧ a.tdiv m ≤ B ∧ -B ≤ a - a.tdiv m ∧ a - a.tdiv m ≤ B := by
  rcases Int.le_total 0 a with h0 | h0
  · have e : a.tdiv m = a / m := Int.tdiv_eq_ediv_of_nonneg h0
    have e1 : 0 ≤ a / m := Int.ediv_nonneg h0 (by omega)
    have e2 : a / m ≤ a := Int.ediv_le_self m h0
    omega
  · have e0 : (-a).tdiv m = (-a) / m := Int.tdiv_eq_ediv_of_nonneg (by omega)
    have e : a.tdiv m = -((-a) / m) := by rw [← e0, Int.neg_tdiv]; omega
    have e1 : 0 ≤ (-a) / m := Int.ediv_nonneg (by omega) (by omega)
    have e2 : (-a) / m ≤ -a := Int.ediv_le_self m (by omega)
    omega
theorem restK_bd (n : Nat) (s B : Int) (hb : -B ≤ s ∧ s ≤ B) : ∀ k, k ≤ n → -B ≤ restK n s k ∧ restK n s k ≤ B
  | 0, _ => hb
  | k + 1, h => by
    have ih := restK_bd n s B hb k (by omega)
    have := tdiv_bd (restK n s k) ((n : Int) - (k : Int)) (by omega) B ih
    rw [restK]
    exact ⟨this.2.2.1, this.2.2.2⟩
theorem closeL_take {xs : List Int} {k : Nat} (h : k < xs.length) : (closeL xs).take (k + 1) = (closeL xs).take k ++ [xs[k] - (restK xs.length xs.sum k).tdiv ((xs.length : Int) - (k : Int))] := by
  rw [List.take_succ_eq_append_getElem (by rw [closeL_len]; exact h), closeL_get, closeF, show xs.getD k 0 = xs[k] by simp [List.getD, h]]
theorem closeL_put {xs : List Int} {k : Nat} (h : k < xs.length) (z : Int) (hz : z = xs[k] - (restK xs.length xs.sum k).tdiv ((xs.length : Int) - (k : Int))) :
    (intsV ((closeL xs).take k ++ xs.drop k)).set k (.int .i64 z) = intsV ((closeL xs).take (k + 1) ++ xs.drop (k + 1)) := by
  subst hz
  have hl : ((closeL xs).take k).length = k := by rw [List.length_take, closeL_len]; omega
  unfold intsV
  rw [← List.map_set, List.set_append_right _ _ (by rw [hl]; exact Nat.le_refl _), hl, Nat.sub_self, List.drop_eq_getElem_cons h, List.set_cons_zero, closeL_take h, List.append_assoc]
  rfl
theorem closeL_at {xs : List Int} {k : Nat} (h : k < xs.length) : (intsV ((closeL xs).take k ++ xs.drop k))[k]? = some (.int .i64 xs[k]) := by
  have hl : ((closeL xs).take k).length = k := by rw [List.length_take, closeL_len]; omega
  unfold intsV
  rw [List.getElem?_map, List.getElem?_append_right (by rw [hl]; exact Nat.le_refl _), hl, Nat.sub_self, List.drop_eq_getElem_cons h]
  rfl
theorem close_bds {xs : List Int} (hr : ∀ y ∈ xs, -100000 ≤ y ∧ y ≤ 100000) (hl : xs.length ≤ 64) {k : Nat} (h : k < xs.length) :
    (-6400000 ≤ restK xs.length xs.sum k ∧ restK xs.length xs.sum k ≤ 6400000) ∧ (-6400000 ≤ (restK xs.length xs.sum k).tdiv ((xs.length : Int) - (k : Int)) ∧ (restK xs.length xs.sum k).tdiv ((xs.length : Int) - (k : Int)) ≤ 6400000) ∧ (-100000 ≤ xs[k] ∧ xs[k] ≤ 100000) := by
  have b1 := restK_bd xs.length xs.sum 6400000 (sum_all hr hl) k (by omega)
  have b2 := tdiv_bd _ ((xs.length : Int) - (k : Int)) (by omega) 6400000 b1
  exact ⟨b1, ⟨b2.1, b2.2.1⟩, hr _ (List.getElem_mem h)⟩
theorem fair_step (r m c : Int) (hm : 1 ≤ m) (hc : 0 ≤ c) (h1 : -(m * c) ≤ r) (h2 : r ≤ m * c) : (-c ≤ r.tdiv m ∧ r.tdiv m ≤ c) ∧ -((m - 1) * c) ≤ r - r.tdiv m ∧ r - r.tdiv m ≤ (m - 1) * c := by
  have key : ∀ a : Int, 0 ≤ a → a ≤ m * c → (a / m ≤ c ∧ 0 ≤ a / m) ∧ a - a / m ≤ (m - 1) * c ∧ 0 ≤ a - a / m := by
    intro a h0 ha
    have e1 := Int.mul_ediv_add_emod a m
    have e2 := Int.emod_nonneg a (show m ≠ 0 by omega)
    have e3 := Int.emod_lt_of_pos a (show 0 < m by omega)
    have e4 : 0 ≤ a / m := Int.ediv_nonneg h0 (by omega)
    have e5 : a / m ≤ a := Int.ediv_le_self m h0
    have e6 : a / m ≤ c := by
      have := Int.ediv_le_ediv (show 0 < m by omega) ha
      rwa [Int.mul_ediv_cancel_left c (show m ≠ 0 by omega)] at this
    refine ⟨⟨e6, e4⟩, ?_, by omega⟩
    generalize a / m = q at *
    generalize a % m = t at *
    rcases Int.lt_or_le q c with h | h
    · have := Int.mul_le_mul_of_nonneg_left (show q ≤ c - 1 by omega) (show 0 ≤ m - 1 by omega)
      have f1 : (m - 1) * (c - 1) = (m - 1) * c - (m - 1) := by rw [Int.mul_sub, Int.mul_one]
      have f2 : (m - 1) * q = m * q - q := by rw [Int.sub_mul, Int.one_mul]
      omega
    · obtain rfl : q = c := by omega
      have f2 : (m - 1) * q = m * q - q := by rw [Int.sub_mul, Int.one_mul]
      omega
  rcases Int.le_total 0 r with h0 | h0
  · obtain ⟨⟨a, b⟩, d, e⟩ := key r h0 h2
    rw [Int.tdiv_eq_ediv_of_nonneg h0]
    have : 0 ≤ (m - 1) * c := Int.mul_nonneg (by omega) hc
    omega
  · obtain ⟨⟨a, b⟩, d, e⟩ := key (-r) (by omega) (by omega)
    have e0 : (-r).tdiv m = (-r) / m := Int.tdiv_eq_ediv_of_nonneg (by omega)
    have e : r.tdiv m = -((-r) / m) := by rw [← e0, Int.neg_tdiv]; omega
    have : 0 ≤ (m - 1) * c := Int.mul_nonneg (by omega) hc
    omega
theorem fair_rest (n : Nat) (s c : Int) (hc : 0 ≤ c) (h1 : -((n : Int) * c) ≤ s) (h2 : s ≤ (n : Int) * c) : ∀ k, k ≤ n → -(((n : Int) - k) * c) ≤ restK n s k ∧ restK n s k ≤ ((n : Int) - k) * c
  | 0, _ => by simpa [restK] using And.intro h1 h2
  | k + 1, h => by
    obtain ⟨a, b⟩ := fair_rest n s c hc h1 h2 k (by omega)
    have := (fair_step (restK n s k) ((n : Int) - k) c (by omega) hc a b).2
    rw [restK, show (n : Int) - ((k + 1 : Nat) : Int) = (n : Int) - k - 1 by omega]
    exact this
theorem fair_part (n : Nat) (s c : Int) (hc : 0 ≤ c) (h1 : -((n : Int) * c) ≤ s) (h2 : s ≤ (n : Int) * c) (k : Nat) (h : k < n) : -c ≤ (restK n s k).tdiv ((n : Int) - k) ∧ (restK n s k).tdiv ((n : Int) - k) ≤ c := by
  obtain ⟨a, b⟩ := fair_rest n s c hc h1 h2 k (by omega)
  exact (fair_step (restK n s k) ((n : Int) - k) c (by omega) hc a b).1
theorem rest_last (n : Nat) (s : Int) : restK (n + 1) s (n + 1) = 0 := by
  rw [restK, show ((n + 1 : Nat) : Int) - (n : Int) = 1 by omega, Int.tdiv_one]; omega
theorem close_sum (xs : List Int) : ∀ k, k ≤ xs.length → ((closeL xs).take k).sum = (xs.take k).sum - (xs.sum - restK xs.length xs.sum k)
  | 0, _ => by simp [restK]
  | k + 1, h => by
    have ih := close_sum xs k (by omega)
    rw [closeL_take (by omega), List.sum_append, ih, sum_snoc (by omega), restK]
    simp
    omega
theorem close_zero {xs : List Int} (h : xs ≠ []) : (closeL xs).sum = 0 := by
  have h1 := close_sum xs xs.length (Nat.le_refl _)
  rw [List.take_of_length_le (by rw [closeL_len]; exact Nat.le_refl _), List.take_length] at h1
  obtain ⟨n, hn⟩ : ∃ n, xs.length = n + 1 := ⟨xs.length - 1, by have := List.length_pos_iff.2 h; omega⟩
  rw [h1, hn, rest_last]
  omega
theorem avg_bd (n : Nat) (s : Int) (h : 1 ≤ n) : -((n : Int) * (s.natAbs / n + 1)) ≤ s ∧ s ≤ (n : Int) * (s.natAbs / n + 1) := by
  have e1 := Int.mul_ediv_add_emod (s.natAbs : Int) (n : Int)
  have e3 := Int.emod_lt_of_pos (s.natAbs : Int) (show 0 < (n : Int) by omega)
  have e : (n : Int) * ((s.natAbs : Int) / n + 1) = (n : Int) * ((s.natAbs : Int) / n) + n := by rw [Int.mul_add, Int.mul_one]
  omega
/-- Each drop of a closed loop is changed by nearly the same. -/
theorem close_near {xs : List Int} {k : Nat} (h : k < xs.length) : -((xs.sum.natAbs : Int) / xs.length + 1) ≤ xs.getD k 0 - closeF xs k ∧ xs.getD k 0 - closeF xs k ≤ (xs.sum.natAbs : Int) / xs.length + 1 := by
  obtain ⟨a, b⟩ := avg_bd xs.length xs.sum (by omega)
  have h0 : 0 ≤ (xs.sum.natAbs : Int) / xs.length := Int.ediv_nonneg (by omega) (by omega)
  have := fair_part xs.length xs.sum ((xs.sum.natAbs : Int) / xs.length + 1) (by omega) a b k h
  unfold closeF
  omega
/-- What CloseLoop returns. -/
def closR (xs : List Int) : List Int := if dropsL xs then closeL xs else []
def closB (xs : List Int) : Int := if dropsL xs then 0 else 2
theorem ret_vi {v : Value} {b b' : Int} (h : b = b') : Ending.returned (.tuple #[v, .int .i64 b]) = .returned (.tuple #[v, .int .i64 b']) := by rw [h]
set_option maxHeartbeats 1000000 in
set_option maxRecDepth 100000 in
theorem sCloseLoop_any (u : Value) (xs : List Int) (w : World) (hv : Row .i64 w u xs) (hl : xs.length ≤ 1048576) :
    Calls Try.prog 26 #[u] w fun e w' => ∃ v, e = .returned (.tuple #[v, .int .i64 (closB xs)]) ∧ OwnI w' w.heap.size v (closR xs) ∧ Below w.heap.size w w' := by
  obtain ⟨A, cap, rfl⟩ := hv.form
  have HV := Lib.hid hv
  clear hv
  cases hd : dropsL xs
  · have HE := Lib.hid (show closR xs = [] ∧ closB xs = 2 by simp [closR, closB, hd])
    go_enter Try.func26, Try.ntmps26
    go_wp2_with (go_at_call 52; refine (l05Drops_any _ xs _ (RowW.of_row HV.out) (by omega)).mono ?_; rintro e w' ⟨rfl, rfl⟩)
    go_ret2
    exact ⟨_, ret_vi HE.out.2.symm, by rw [HE.out.1]; exact World.ownsRow_nil _ _ _ _, Below.refl _ _⟩
  · have HE := Lib.hid (show closR xs = closeL xs ∧ closB xs = 0 by simp [closR, closB, hd])
    have HB := Lib.hid (dropsL_bd hd)
    have hl64 := HB.out.2
    obtain ⟨i0, hi, hz0, hz1, hz2⟩ := info_parts info_i64
    go_enter Try.func26, Try.ntmps26
    go_wp2_with (first
      | (go_at_call 52; refine (l05Drops_any _ xs _ (RowW.of_row HV.out) (by omega)).mono ?_; rintro e w' ⟨rfl, rfl⟩)
      | (go_at_call 53; refine (l05Sum_any _ xs _ (RowW.of_row HV.out) HB.out.1 HB.out.2).mono ?_; rintro e w' ⟨rfl, rfl⟩))
    go_loopw [4, 5, 6] (fun rest out i wr => ∃ k : Nat, k ≤ xs.length ∧ i = .int .i64 k ∧ rest = .int .i64 (restK xs.length xs.sum k) ∧ wr.ownsRow w.heap.size 2 1 out k (intsV ((closeL xs).take k)) ∧ Below w.heap.size w wr) (fun rest out i wr => xs.length - (intOf i).toNat)
    case atStart => exact ⟨0, by omega, rfl, rfl, World.ownsRow_lit _ _ 0 (Nat.le_refl _) (by simp [maxLen]) rfl, (Below.refl _ _).alloc (Nat.le_refl _) _⟩
    case round =>
      obtain ⟨k, hk, rfl, rfl, hout, hbel⟩ := hrel
      have hwsz := hbel.size
      by_cases hlt : k < xs.length
      · obtain ⟨b, off, rfl, -, hc⟩ := Row.cell (HV.out.below hbel) hlt
        rw [show xs.getD k 0 = xs[k] by simp [List.getD, hlt]] at hc
        obtain ⟨⟨b1, b2⟩, ⟨b3, b4⟩, b5, b6⟩ := close_bds HB.out.1 HB.out.2 hlt
        have HS := Lib.hid (And.intro (closeL_take hlt) (show restK xs.length xs.sum (k + 1) = restK xs.length xs.sum k - (restK xs.length xs.sum k).tdiv ((xs.length : Int) - (k : Int)) from rfl))
        generalize xs[k] = z at *
        generalize restK xs.length xs.sum k = r at *
        have hnk : (xs.length : Int) - (k : Int) ≠ 0 := by omega
        go_wp2_with (first
          | (at_builtin; refine wpList_append_own _ rfl _ _ 35 rfl w.heap.size 2 i0 (.int .i64 0) 1 8 Try.underlying35 hi hz0 hz1 hz2 rfl (by decide) _ _ _ rfl (hout.alloc _) ⟨wr.heap.size, 0, none⟩ 1 1 [.int .i64 (z - r.tdiv ((xs.length : Int) - (k : Int)))] rfl rfl ?c1z ?c2z ?c3z ?c4z ?c5z ?_))
        case c1z => intro j u hj; match j, hj with | 0, hj => (simp at hj; subst hj; simp [Addr.add]) | j + 1, hj => (simp at hj)
        case c2z => simp [Value.oneCell']
        case c3z => unfold maxLen; omega
        case c4z => omega
        case c5z => (simp; omega)
        intro v' w1 hout' hgrow _
        have HBB : Hid (Below w.heap.size w w1) := Lib.hid ((hbel.alloc hwsz _).grown hgrow (by simp; omega) (fun k hk => (hout.lt k hk).1))
        have HOO : Hid (w1.ownsRow w.heap.size 2 1 v' (k + 1) (intsV ((closeL xs).take (k + 1)))) := Lib.hid (by rw [HS.out.1]; simpa [intsV] using hout')
        clear hout' hgrow hout hbel
        go_wp2
        go_roundw
        case rel => exact ⟨k + 1, by omega, by go_num, by rw [HS.out.2], HOO.out, HBB.out⟩
        case measure => simp [intOf]; omega
      · obtain rfl : k = xs.length := by omega
        rw [List.take_of_length_le (by rw [closeL_len]; exact Nat.le_refl _)] at hout
        have HO := Lib.hid hout
        clear hout
        go_wp2
        go_ret2
        exact ⟨_, ret_vi HE.out.2.symm, by rw [HE.out.1]; unfold OwnI; rw [closeL_len]; exact HO.out, hbel⟩
set_option maxHeartbeats 2000000 in
set_option maxRecDepth 100000 in
theorem iCloseLoop_any (u : Value) (xs : List Int) (w : World) (hv : Row .i64 w u xs) (hl : xs.length ≤ 1048576) :
    Calls Try.prog 27 #[u] w fun e w' => ∃ v, e = .returned (.tuple #[v, .int .i64 (closB xs)]) ∧ OwnI w' w.heap.size v (closR xs) ∧ Below w.heap.size w w' := by
  obtain ⟨A, cap, rfl⟩ := hv.form
  have HV := Lib.hid hv
  clear hv
  cases hd : dropsL xs
  · have HE := Lib.hid (show closR xs = [] ∧ closB xs = 2 by simp [closR, closB, hd])
    go_enter Try.func27, Try.ntmps27
    go_wp2_with (go_at_call 54; refine (areDrops_any _ xs _ HV.out (by omega)).mono ?_; rintro e w' ⟨rfl, rfl⟩)
    go_ret2
    exact ⟨_, ret_vi HE.out.2.symm, by rw [HE.out.1]; exact World.ownsRow_nil _ _ _ _, Below.refl _ _⟩
  · have HE := Lib.hid (show closR xs = closeL xs ∧ closB xs = 0 by simp [closR, closB, hd])
    have HB := Lib.hid (dropsL_bd hd)
    have hl64 := HB.out.2
    have hmk := run_make_row' (P := Try.prog) 35 2 (.int .i64 0) 8 Try.underlying35 info_i64 rfl .i64 .i64 xs.length (by omega) (by omega)
    have hcz : (madeCells #[.int .i64 0] xs.length).toList.length = xs.length := by simp [madeCells]
    have hsp : splice (madeCells #[.int .i64 0] xs.length).toList 0 (intsV xs) = intsV xs := by
      unfold splice; rw [List.take_zero, List.nil_append, List.drop_of_length_le (by rw [hcz]; simp [intsV]), List.append_nil]
    have HC := Lib.hid (And.intro hcz hsp)
    clear hcz hsp
    go_enter Try.func27, Try.ntmps27
    go_wp2_with (first
      | (go_at_call 54; refine (areDrops_any _ xs _ HV.out (by omega)).mono ?_; rintro e w' ⟨rfl, rfl⟩)
      | (with_reducible refine wpList_copy_splice rfl _ _ 35 35 rfl 2 Try.underlying35 rfl (some ⟨w.heap.size, 0, none⟩) A xs.length xs.length xs.length cap ?e1 ?e2 w.heap.size 0 (madeCells #[.int .i64 0] xs.length).toList 2 ?e3 (intsV xs) ?e4 ?e5 ?e6 ?e7 w.heap.size w ?e8 (Nat.le_refl _) ?e9))
    case e1 => first | rfl | simp
    case e2 => first | rfl | simp
    case e3 => first | exact (heap_alloc_new w _).trans (by simp) | (simp; done)
    case e4 => simp [intsV]
    case e5 =>
      intro h0
      have h1 : 0 < xs.length := by simpa [intsV] using h0
      obtain ⟨b, off, rfl, -, hc⟩ := Row.cell HV.out h1
      have hsrc : ∀ (j : Nat) (v : Value), (intsV xs)[j]? = some v → (w.alloc (.cells (madeCells #[.int .i64 0] xs.length) 2)).cell? ((⟨b, off, none⟩ : Addr).add j) = some v := by
       intro j v hj
       obtain ⟨hjl, hjv⟩ := List.getElem?_eq_some_iff.1 hj
       have hjx : j < xs.length := by simpa [intsV] using hjl
       obtain ⟨b', off', e', -, hc'⟩ := Row.cell HV.out hjx
       injection e' with e'
       injection e' with e1 e2
       subst e1 e2
       rw [Go.WideShapes.add_plain, World.cell?_alloc_past _ _ _ (World.block_lt_of_cell? _ _ hc)]
       rw [hc', ← hjv]
       simp [intsV, List.getD, hjx]
      first | exact ⟨rfl, _, rfl, hsrc⟩ | exact ⟨_, rfl, hsrc⟩ | simpa using hsrc
    case e6 => simp [intsV, madeCells]
    case e7 => intro v hv; simp only [intsV, List.mem_map] at hv; obtain ⟨x, -, rfl⟩ := hv; rfl
    case e8 => exact (Below.refl _ _).alloc (Nat.le_refl _) _
    intro w2 HG2 hB2
    have hG : w2.heap[w.heap.size]? = some (.cells (intsV xs).toArray 2 (0, 0)) := by rw [← HC.out.2]; exact HG2.out
    have HO := Lib.hid (show w2.ownsRow w.heap.size 2 1 (.slice (some ⟨w.heap.size, 0, none⟩) xs.length xs.length) xs.length (intsV xs) from ⟨by simp [intsV], .inr ⟨w.heap.size, xs.length, (intsV xs).toArray, rfl, Nat.le_refl _, hG, Nat.le_refl _, by unfold maxLen; omega, by simp [intsV], List.take_of_length_le (by simp [intsV])⟩⟩)
    have HV2 := Lib.hid (HV.out.below hB2)
    have HB2 := Lib.hid hB2
    clear HG2 hB2 hG hmk
    go_wp2_with (go_at_call 55; refine (sumOf_any _ xs _ (RowW.of_row HV2.out) HB.out.1 HB.out.2).mono ?_; rintro e w' ⟨rfl, rfl⟩)
    go_loopw [5, 21] (fun rest i wr => ∃ k : Nat, k ≤ xs.length ∧ i = .int .i64 k ∧ rest = .int .i64 (restK xs.length xs.sum k) ∧ wr.ownsRow w.heap.size 2 1 (.slice (some ⟨w.heap.size, 0, none⟩) xs.length xs.length) xs.length (intsV ((closeL xs).take k ++ xs.drop k)) ∧ Below w.heap.size w wr) (fun rest i wr => xs.length - (intOf i).toNat)
    case atStart => exact ⟨0, by omega, rfl, rfl, by simpa using HO.out, HB2.out⟩
    case round =>
      obtain ⟨k, hk, rfl, rfl, hout, hbel⟩ := hrel
      by_cases hlt : k < xs.length
      · obtain ⟨⟨b1, b2⟩, ⟨b3, b4⟩, b5, b6⟩ := close_bds HB.out.1 HB.out.2 hlt
        have hcd : wr.cell? ⟨w.heap.size, k, none⟩ = some (.int .i64 xs[k]) := by rw [hout.cellAt k (by omega), closeL_at hlt]
        have hfz := hout.frozenAt k
        have HS := Lib.hid (And.intro (fun z hz => closeL_put hlt z hz) (show restK xs.length xs.sum (k + 1) = restK xs.length xs.sum k - (restK xs.length xs.sum k).tdiv ((xs.length : Int) - (k : Int)) from rfl))
        have HO := Lib.hid hout
        have HBL := Lib.hid hbel
        clear hout hbel
        generalize xs[k] = z at *
        generalize restK xs.length xs.sum k = r at *
        have hnk : (xs.length : Int) - (k : Int) ≠ 0 := by omega
        go_wp2
        go_roundw
        case rel => exact ⟨k + 1, by omega, by go_num, by rw [HS.out.2], by
          have h := (HO.out.stored k (.int .i64 (z - r.tdiv ((xs.length : Int) - (k : Int))))).1
          rwa [HS.out.1 _ rfl] at h, HBL.out.setCell (Nat.le_refl _) _⟩
        case measure => simp [intOf]; omega
      · obtain rfl : k = xs.length := by omega
        rw [List.take_of_length_le (by rw [closeL_len]; exact Nat.le_refl _), List.drop_length, List.append_nil] at hout
        have HO := Lib.hid hout
        clear hout
        go_wp2
        go_ret2
        exact ⟨_, ret_vi HE.out.2.symm, by rw [HE.out.1]; unfold OwnI; rw [closeL_len]; exact HO.out, hbel⟩
end Go.Proofs.Ytbjfdhbgnklahaa
