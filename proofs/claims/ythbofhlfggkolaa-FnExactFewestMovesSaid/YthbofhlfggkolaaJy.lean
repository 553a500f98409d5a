/-
  Contracts of chapter 10: the fewest moves; the model's. Conditions: those that each theorem states.
-/
import Derived.Test.YthbofhlfggkolaaJp
import Derived.Test.YthbofhlfggkolaaJx
import Derived.Test.YthbofhlfggkolaaNh
import Derived.Test.YthbofhlfggkolaaRg
namespace Go.Proofs.Ythbofhlfggkolaa
open Go.RowKit
set_option linter.unusedVariables false
set_option linter.unusedSimpArgs false

theorem i64_or : ∀ k : Nat, k < 8 → ∀ o : Nat, o < 256 → o < 2 ^ k → bits .or .i64 (o : Int) (wrap64 ((2 : Int) ^ k)) = ((o ^^^ 2 ^ k : Nat) : Int) := by decide +kernel
theorem i64_xor : ∀ k : Nat, k < 8 → ∀ o : Nat, o < 256 → bits .xor .i64 (o : Int) (wrap64 ((2 : Int) ^ k)) = ((o ^^^ 2 ^ k : Nat) : Int) := by decide +kernel
theorem l10Bits_any (D : Option Addr) (dcap : Nat) (st : List Bool) (w : World) (hd : BoR w D st) (hdl : st.length ≤ 8) :
    Calls Try.prog 66 #[.slice D st.length dcap] w fun e w' => e = .returned (.int .i64 (openM st st.length : Int)) ∧ w = w' := by
  have HD := Lib.hid hd
  clear hd
  go_enter Try.func66, Try.ntmps66
  go_wp2
  go_loop [3, 4] (fun s i => ∃ k o : Nat, k ≤ st.length ∧ i = .int .i64 k ∧ s = .int .i64 (o : Int) ∧ Hid (openM st k = o)) (fun s i => st.length - (intOf i).toNat)
  case atStart => exact ⟨0, 0, by omega, rfl, rfl, Lib.hid rfl⟩
  case round =>
    obtain ⟨k, o, hk, rfl, rfl, HO⟩ := hrel
    by_cases hlt : k < st.length
    · obtain ⟨bs, os, rfl, s0⟩ := HD.out k hlt
      have ho : o < 2 ^ k := by rw [← HO.out]; exact openM_lt st k
      have ho2 : o < 256 := by rw [← HO.out]; exact openM_256 st (by omega)
      have hbit := i64_or k (by omega) o ho2 ho
      have HN := Lib.hid (show openM st (k + 1) = if st[k] = true then o ^^^ 2 ^ k else o by rw [← HO.out, ← stF_lt hlt]; rfl)
      generalize st[k] = p at *
      clear ho
      cases p
      · have HF := Lib.hid (show openM st (k + 1) = o by rw [HN.out]; rfl)
        go_wp2
        go_round
        case rel => exact ⟨k + 1, o, by omega, by go_num, rfl, HF⟩
        case measure => simp [intOf]; omega
      · have HF := Lib.hid (show openM st (k + 1) = o ^^^ 2 ^ k by rw [HN.out]; rfl)
        go_wp2
        go_round
        case rel => exact ⟨k + 1, o ^^^ 2 ^ k, by omega, by go_num, by first | rfl | rw [hbit], HF⟩
        case measure => simp [intOf]; omega
    · obtain rfl : k = st.length := by omega
      go_wp2
      go_ret
      exact ⟨by rw [HO.out]; rfl, rfl⟩
theorem ret_vy {v : Value} {b b' : Int} (h : b = b') : Ending.returned (.tuple #[v, .int .i64 b]) = .returned (.tuple #[v, .int .i64 b']) := by rw [h]
theorem own_ley {w : World} {B B' : Nat} {v : Value} {xs : List Int} (h : OwnI w B v xs) (hb : B' ≤ B) : OwnI w B' v xs := ⟨h.1, h.2.imp id fun ⟨g, cap, cur, e, hg, r⟩ => ⟨g, cap, cur, e, Nat.le_trans hb hg, r⟩⟩
theorem ownI_raw {w : World} {B n : Nat} {v : Value} {xs : List Int} (hn : xs.length = n) : OwnI w B v xs ↔ w.ownsRow B 2 1 v n (intsV xs) := by subst hn; exact Iff.rfl
theorem own_nily (w : World) (B : Nat) : OwnI w B (.slice none 0 0) [] := World.ownsRow_nil _ _ _ _
/-- A row of numbers of moves. -/
def farL (N : Nat) (far : Nat → Int) : List Int := (List.range N).map far
theorem farL_len (N : Nat) (far : Nat → Int) : (farL N far).length = N := by simp [farL]
theorem farL_at {N j : Nat} (far : Nat → Int) (h : j < N) : (intsV (farL N far))[j]? = some (.int .i64 (far j)) := by simp [intsV, farL, h]
theorem farL_snoc (N : Nat) (far : Nat → Int) : intsV (farL (N + 1) far) = intsV (farL N far) ++ [.int .i64 (far N)] := by simp [intsV, farL, List.range_succ]
theorem farL_set {N b : Nat} {far : Nat → Int} (v : Int) (h : b < N) : (intsV (farL N far)).set b (.int .i64 v) = intsV (farL N (fun j => if j = b then v else far j)) := by
  apply List.ext_getElem
  · simp [intsV, farL]
  · intro j h1 h2
    simp only [intsV, farL, List.getElem_set, List.getElem_map, List.getElem_range]
    by_cases e : b = j
    · subst e; simp
    · rw [if_neg e, if_neg (fun q => e q.symm)]
/-- The first one of the shortest lists of moves. -/
def First (n : Nat) (ok : Nat → Bool) (s t : Nat) (l : List Nat) : Prop := Pth n ok mvx s l t ∧ ∀ p, Pth n ok mvx s p t → sle l p
theorem First.one {n : Nat} {ok : Nat → Bool} {s t : Nat} {l r : List Nat} (h : First n ok s t l) (h2 : First n ok s t r) : l = r := sle_anti (h.2 r h2.1) (h2.2 l h.1)
theorem key_one {E : List (Nat × List Nat)} (h : E.Pairwise (fun x y => x.1 ≠ y.1)) {x y : Nat × List Nat} (hx : x ∈ E) (hy : y ∈ E) (e : x.1 = y.1) : x = y := by
  obtain ⟨i, hi, rfl⟩ := List.mem_iff_getElem.1 hx
  obtain ⟨j, hj, rfl⟩ := List.mem_iff_getElem.1 hy
  rcases Nat.lt_trichotomy i j with q | q | q
  · exact absurd e (List.pairwise_iff_getElem.1 h i j hi hj q)
  · subst q; rfl
  · exact absurd e.symm (List.pairwise_iff_getElem.1 h j i hj hi q)
/-- What the search has found for a state at its end is the first one of the shortest lists. -/
theorem Bfs.first {n : Nat} {ok : Nat → Bool} {s0 t0 h : Nat} {E : List (Nat × List Nat)} (b : Bfs n ok mvx s0 E h 0) (hh : E.length ≤ h) (hp : ∃ p, Pth n ok mvx s0 p t0) : ∃ q, (t0, q) ∈ E ∧ First n ok s0 t0 q := by
  obtain ⟨p, hp⟩ := hp
  obtain ⟨q, hq, -⟩ := b.all hh _ p t0 rfl hp
  refine ⟨q, hq, b.pth _ hq, fun p' hp' => ?_⟩
  obtain ⟨q', hq', hs⟩ := b.all hh _ p' t0 rfl hp'
  have := key_one b.key hq' hq rfl
  injection this with _ e
  rw [← e]
  exact hs
theorem nodup_lt : ∀ (M : Nat) (l : List Nat), l.Nodup → (∀ x ∈ l, x < M) → l.length ≤ M
  | 0, l, _, h => by
    cases l with
    | nil => simp
    | cons a l => exact absurd (h a (by simp)) (by omega)
  | M + 1, l, hn, h => by
    have h1 := nodup_lt M (l.erase M) (hn.erase M) (fun x hx => by
      have h2 := (List.Nodup.mem_erase_iff hn).1 hx
      have := h x h2.2
      have := h2.1
      omega)
    by_cases hm : M ∈ l
    · rw [List.length_erase_of_mem hm] at h1; omega
    · rw [List.erase_of_not_mem hm] at h1; omega
/-- The states that were found are different and below the number of all: there are no more than these. -/
theorem Bfs.size {n : Nat} {ok : Nat → Bool} {s0 h d0 M : Nat} {E : List (Nat × List Nat)} (b : Bfs n ok mvx s0 E h d0) (hs : s0 < M) (hm : ∀ s d, s < M → d < n → mvx s d < M) : (∀ x ∈ E, x.1 < M) ∧ E.length ≤ M := by
  have hl : ∀ (p : List Nat) (s t : Nat), s < M → Pth n ok mvx s p t → t < M := by
    intro p
    induction p with
    | nil => intro s t h hp; cases hp; exact h
    | cons d p ih => intro s t h hp; exact ih _ _ (hm s d h hp.1) hp.2.2
  have h1 : ∀ x ∈ E, x.1 < M := fun x hx => hl x.2 s0 x.1 hs (b.pth x hx)
  refine ⟨h1, ?_⟩
  have hn : (E.map (·.1)).Nodup := List.pairwise_map.2 b.key
  have := nodup_lt M _ hn (fun y hy => by obtain ⟨x, hx, rfl⟩ := List.mem_map.1 hy; exact h1 x hx)
  simpa using this
open Classical in
noncomputable def fmP (n : Nat) (ok : Nat → Bool) (s t : Nat) : List Nat := if h : ∃ l, First n ok s t l then h.choose else []
theorem First.eq {n : Nat} {ok : Nat → Bool} {s t : Nat} {l : List Nat} (h : First n ok s t l) : fmP n ok s t = l := by
  unfold fmP
  rw [dif_pos ⟨l, h⟩]
  exact First.one (Classical.choose_spec (p := fun l => First n ok s t l) ⟨l, h⟩) h
/-- The states of a number keep the locks. -/
def okN (xs : List (List Int)) (s : Nat) : Bool := kb s.testBit xs
theorem okN_mod {xs : List (List Int)} (s i : Nat) (h : okN xs s = true) : okN xs (s % 2 ^ i) = true := by
  unfold okN at *
  rw [kb_iff] at *
  intro j hj
  have := h j hj
  simp only [Nat.testBit_mod_two_pow]
  revert this
  cases s.testBit ((lkAt xs j).getD 0 0).toNat <;> cases s.testBit ((lkAt xs j).getD 1 0).toNat <;> simp
theorem okN_st {st : List Bool} {xs : List (List Int)} (hok : lksOk st.length xs = true) : okN xs (openM st st.length) = kb (stF st) xs := by
  unfold okN
  refine kb_congr hok (fun i hi => ?_)
  rw [openM_bit, decide_eq_true (show i < st.length by omega), Bool.true_and]
noncomputable def fmL (st1 st2 : List Bool) (xs : List (List Int)) : List Int :=
  if lkdOk st1 xs && (lkdOk st2 xs && decide (st1.length = st2.length)) then (fmP st1.length (okN xs) (openM st1 st1.length) (openM st2 st1.length)).map (fun (d : Nat) => (d : Int)) else []
def fmC (st1 st2 : List Bool) (xs : List (List Int)) : Int := if lkdOk st1 xs && lkdOk st2 xs then (if st1.length = st2.length then 0 else 6) else 1
theorem info_i64y : (Try.prog.info? 2).map (fun i => (i.zero, i.size, i.bytes)) = some (some (.int .i64 0), 1, 8) := by kernel_rfl
set_option maxHeartbeats 8000000 in
set_option maxRecDepth 100000 in
theorem sFewestMoves_any (A : Option Addr) (cap : Nat) (xs : List (List Int)) (D1 : Option Addr) (c1 : Nat) (st1 : List Bool) (D2 : Option Addr) (c2 : Nat) (st2 : List Bool) (w : World) (hr : RowsR w A xs) (hl : xs.length ≤ 1048576) (hls : ∀ r ∈ xs, r.length ≤ 1048576)
    (hd1 : BoR w D1 st1) (hl1 : st1.length ≤ 1048576) (hd2 : BoR w D2 st2) (hl2 : st2.length ≤ 1048576) :
    Calls Try.prog 28 #[.slice A xs.length cap, .slice D1 st1.length c1, .slice D2 st2.length c2] w fun e w' => ∃ v, e = .returned (.tuple #[v, .int .i64 (fmC st1 st2 xs)]) ∧ OwnI w' w.heap.size v (fmL st1 st2 xs) ∧ Below w.heap.size w w' := by
  obtain ⟨i0, hi, hz0, hz1, hz2⟩ := info_parts info_i64y
  have HC1 := Lib.hid (l10Locked_any D1 c1 st1 A cap xs w hd1 hl1 hr hl hls)
  cases hk1 : lkdOk st1 xs
  · have HE := Lib.hid (show fmC st1 st2 xs = 1 ∧ fmL st1 st2 xs = [] by simp [fmC, fmL, hk1])
    go_enter Try.func28, Try.ntmps28
    go_wp2_with fail
    (with_reducible refine (HC1.out).mono ?_)
    rintro e w1 ⟨rfl, hb1⟩
    rw [hk1]
    go_wp2
    go_ret2
    exact ⟨_, ret_vy HE.out.1.symm, by rw [HE.out.2]; exact own_nily _ _, hb1⟩
  have HC2 := Lib.hid (fun W (h : Below w.heap.size w W) => l10Locked_any D2 c2 st2 A cap xs W (hd2.below h) hl2 (hr.below h) hl hls)
  cases hk2 : lkdOk st2 xs
  · have HE := Lib.hid (show fmC st1 st2 xs = 1 ∧ fmL st1 st2 xs = [] by simp [fmC, fmL, hk1, hk2])
    go_enter Try.func28, Try.ntmps28
    go_wp2_with fail
    (with_reducible refine (HC1.out).mono ?_)
    rintro e w1 ⟨rfl, hb1⟩
    rw [hk1]
    go_wp2_with fail
    (with_reducible refine (HC2.out _ hb1).mono ?_)
    rintro e w2 ⟨rfl, hb2⟩
    rw [hk2]
    go_wp2
    go_ret2
    exact ⟨_, ret_vy HE.out.1.symm, by rw [HE.out.2]; exact own_nily _ _, hb1.trans (hb2.mono hb1.size)⟩
  by_cases hne : st1.length = st2.length
  rotate_left
  · have HE := Lib.hid (show fmC st1 st2 xs = 6 ∧ fmL st1 st2 xs = [] by simp [fmC, fmL, hk1, hk2, hne])
    have tne : ((st1.length : Int) != (st2.length : Int)) = true := by simp; omega
    go_enter Try.func28, Try.ntmps28
    go_wp2_with fail
    (with_reducible refine (HC1.out).mono ?_)
    rintro e w1 ⟨rfl, hb1⟩
    rw [hk1]
    go_wp2_with fail
    (with_reducible refine (HC2.out _ hb1).mono ?_)
    rintro e w2 ⟨rfl, hb2⟩
    rw [hk2]
    go_wp2
    go_ret2
    exact ⟨_, ret_vy HE.out.1.symm, by rw [HE.out.2]; exact own_nily _ _, hb1.trans (hb2.mono hb1.size)⟩
  obtain ⟨hka1, hkb1⟩ := (Bool.and_eq_true _ _).mp hk1
  obtain ⟨hka2, hkb2⟩ := (Bool.and_eq_true _ _).mp hk2
  have n8 := (lksOk_iff.1 hka1).1.2
  have hd8 : st1.length ≤ 8 := by omega
  have HQ1 := Lib.hid (fun W (h : Below w.heap.size w W) => l10Bits_any D1 c1 st1 W (hd1.below h) (by omega))
  have HQ2 := Lib.hid (fun W (h : Below w.heap.size w W) => l10Bits_any D2 c2 st2 W (hd2.below h) (by omega))
  have HK := Lib.hid (fun (k : Nat) (D : Option Addr) (dc : Nat) (W : World) (hb : BoR W D (stN k st1.length)) (h : Below w.heap.size w W) => l10Keeps_any D dc (stN k st1.length) A cap xs W hb (hr.below h) (by rw [stN_len]; exact hka1))
  have HN := Lib.hid (fun (k : Nat) => show kb (stF (stN k st1.length)) xs = okN xs k from kb_congr hka1 (fun i hi => stN_at (by omega)))
  have os : okN xs (openM st1 st1.length) = true := (okN_st hka1).trans hkb1
  have ot : okN xs (openM st2 st1.length) = true := by rw [hne]; exact (okN_st hka2).trans hkb2
  have hs0 : openM st1 st1.length < 2 ^ st1.length := openM_lt _ _
  have ht0 : openM st2 st1.length < 2 ^ st1.length := openM_lt _ _
  have HE := Lib.hid (show fmC st1 st2 xs = 0 ∧ fmL st1 st2 xs = (fmP st1.length (okN xs) (openM st1 st1.length) (openM st2 st1.length)).map (fun (d : Nat) => (d : Int)) by
    unfold fmC fmL
    rw [hk1, hk2, decide_eq_true hne, if_pos hne]
    exact ⟨rfl, rfl⟩)
  rw [← hne] at HC2 HQ2 ⊢
  clear hka1 hkb1 hka2 hkb2 n8 hne
  generalize st1.length = d at *
  generalize openM st1 d = s0 at *
  generalize openM st2 d = t0 at *
  have hpb := pow2_bd d hd8
  have hdM := two_le d
  have hpe : (2 : Int) ^ d = ((2 ^ d : Nat) : Int) := by simp
  have HFM := Lib.hid (fun (far : Nat → Int) (f : Far d (okN xs) mvx (2 ^ d) t0 far) => f.moves okN_mod hs0 ht0 os ot)
  have HFG := Lib.hid (fun (far : Nat → Int) (f : Far d (okN xs) mvx (2 ^ d) t0 far) (k : Nat) (hk : k ≤ 2 * d) (h : far s0 = (k : Int)) => First.eq (f.greedy k s0 hs0 (Nat.le_trans hk (two_le d)) h))
  have HMV := Lib.hid (fun s i (hs : s < 2 ^ d) (hi : i < d) => mvx_lt hs hi)
  have hs0' : s0 < 2 ^ d := hs0
  generalize (2 ^ d : Nat) = M at *
  clear hs0'
  go_enter Try.func28, Try.ntmps28
  go_wp2_with fail
  (with_reducible refine (HC1.out).mono ?_)
  rintro e w1 ⟨rfl, hb1⟩
  rw [hk1]
  go_wp2_with fail
  (with_reducible refine (HC2.out _ hb1).mono ?_)
  rintro e w2 ⟨rfl, hb2⟩
  rw [hk2]
  have HB2 := Lib.hid (hb1.trans (hb2.mono hb1.size))
  clear hb1 hb2
  go_wp2
  go_loopw [9, 10] (fun out i wr => ∃ k : Nat, k ≤ M ∧ i = .int .i64 k ∧ Hid (wr.ownsRow w.heap.size 2 1 out k (intsV (farL k (fun _ => -1)))) ∧ Hid (Below w.heap.size w wr)) (fun out i wr => M - (intOf i).toNat)
  case atStart => exact ⟨0, by omega, rfl, Lib.hid (World.ownsRow_lit _ _ 0 HB2.out.size (by simp [maxLen]) rfl), Lib.hid (HB2.out.alloc HB2.out.size _)⟩
  case round =>
    obtain ⟨wo, rfl⟩ : ∃ wo : World, wo = wr := ⟨_, rfl⟩
    obtain ⟨k, hk, rfl, HO, HBL⟩ := hrel
    have hwz := HBL.out.size
    by_cases hlt : k < M
    · go_wp2_with (at_builtin; refine wpList_append_own _ rfl _ _ 43 rfl w.heap.size 2 i0 (.int .i64 0) 1 8 Try.underlying43 hi hz0 hz1 hz2 rfl (by decide) _ _ _ rfl (HO.out.alloc _) ⟨wo.heap.size, 0, none⟩ 1 1 [.int .i64 (-1)] rfl rfl ?c1z ?c2z ?c3z ?c4z ?c5z ?_)
      try (case c1z => intro j u hj; match j, hj with | 0, hj => (simp at hj; subst hj; simp [Addr.add]) | j + 1, hj => (simp at hj))
      try (case c2z => simp [Value.oneCell'])
      try (case c3z => unfold maxLen; omega)
      try (case c4z => omega)
      try (case c5z => first | omega | (simp; omega))
      intro v3 w3 ho3 hg3 _
      have HO3 := Lib.hid (show w3.ownsRow w.heap.size 2 1 v3 (k + 1) (intsV (farL (k + 1) (fun _ => -1))) by rw [farL_snoc]; exact ho3)
      have HB3 := Lib.hid ((HBL.out.alloc HBL.out.size _).grown hg3 (by simp; omega) (fun k hk => (HO.out.lt k hk).1))
      clear ho3 hg3
      go_wp2
      go_roundw
      case rel => exact ⟨k + 1, by omega, by go_num, HO3, HB3⟩
      case measure => simp [intOf]; omega
    · obtain rfl : k = M := by omega
      obtain ⟨g, gcap, hge, hgB⟩ : ∃ g gcap, u9 = .slice (some ⟨g, 0, none⟩) k gcap ∧ w.heap.size ≤ g := by
        rcases HO.out.2 with ⟨-, h0⟩ | ⟨g, cap, cur, e, hg, -⟩
        · omega
        · exact ⟨g, cap, e, hg⟩
      subst hge
      have d0 : wo.cell? ⟨g, t0, none⟩ = some (.int .i64 (-1)) := by rw [HO.out.cellAt t0 (by omega), farL_at _ ht0]
      have z0 := HO.out.frozenAt t0
      have HO1 := Lib.hid (show (wo.setCell ⟨g, t0, none⟩ (.int .i64 0)).ownsRow w.heap.size 2 1 (.slice (some ⟨g, 0, none⟩) k gcap) k (intsV (farL k (fun s => if s = t0 then 0 else -1))) by
        have h := (HO.out.stored t0 (.int .i64 0)).1
        rw [farL_set _ ht0] at h
        exact h)
      have HB1 := Lib.hid (HBL.out.setCell (p := ⟨g, t0, none⟩) (by show w.heap.size ≤ g; omega) (.int .i64 0))
      go_wp2_with fail
      (with_reducible refine (HQ2.out _ HBL.out).mono ?_)
      rintro e w' ⟨rfl, rfl⟩
      go_wp2
      clear HO hlt d0 z0 HBL hwz
      go_loopw [11] (fun i wr => ∃ (stp : Nat) (far : Nat → Int), stp ≤ k ∧ i = .int .i64 stp ∧ Hid (Lay d (okN xs) mvx k t0 far stp 0 0) ∧ Hid (wr.ownsRow w.heap.size 2 1 (.slice (some ⟨g, 0, none⟩) k gcap) k (intsV (farL k far))) ∧ Hid (Below w.heap.size w wr)) (fun i wr => k - (intOf i).toNat)
      case atStart => exact ⟨0, _, by omega, rfl, Lib.hid (Lay.start ot), HO1, HB1⟩
      case round =>
        obtain ⟨wo, rfl⟩ : ∃ wo : World, wo = wr := ⟨_, rfl⟩
        obtain ⟨stp, far, hstp, rfl, HL, HO, HB⟩ := hrel
        by_cases hlt : stp < k
        · go_wp2
          go_loopw [12] (fun i wr => ∃ (b : Nat) (far : Nat → Int), b ≤ k ∧ i = .int .i64 b ∧ Hid (Lay d (okN xs) mvx k t0 far stp b 0) ∧ Hid (wr.ownsRow w.heap.size 2 1 (.slice (some ⟨g, 0, none⟩) k gcap) k (intsV (farL k far))) ∧ Hid (Below w.heap.size w wr)) (fun i wr => k - (intOf i).toNat)
          case atStart => exact ⟨0, far, by omega, rfl, HL, HO, HB⟩
          case round =>
            clear HL HO HB far
            obtain ⟨wo, rfl⟩ : ∃ wo : World, wo = wr := ⟨_, rfl⟩
            obtain ⟨b, far, hb, rfl, HL, HO, HB⟩ := hrel
            by_cases hbl : b < k
            · have f0 : wo.cell? ⟨g, b, none⟩ = some (.int .i64 (far b)) := by rw [HO.out.cellAt b (by omega), farL_at _ hbl]
              by_cases hf : far b = (stp : Int)
              · rw [hf] at f0
                go_wp2
                go_loopw [13] (fun i wr => ∃ (q : Nat) (far : Nat → Int), q ≤ d ∧ i = .int .i64 q ∧ Hid (far b = (stp : Int)) ∧ Hid (Lay d (okN xs) mvx k t0 far stp b q) ∧ Hid (wr.ownsRow w.heap.size 2 1 (.slice (some ⟨g, 0, none⟩) k gcap) k (intsV (farL k far))) ∧ Hid (Below w.heap.size w wr)) (fun i wr => d - (intOf i).toNat)
                case atStart => exact ⟨0, far, by omega, rfl, Lib.hid hf, HL, HO, HB⟩
                case round =>
                  clear HL HO HB f0 hf far
                  obtain ⟨wo, rfl⟩ : ∃ wo : World, wo = wr := ⟨_, rfl⟩
                  obtain ⟨q, far, hq, rfl, HFB, HL, HO, HB⟩ := hrel
                  by_cases hql : q < d
                  · have hbit := i64_xor q (by omega) b (by omega)
                    have hnl := HMV.out b q hbl hql
                    have HNB := Lib.hid (show mvx b q = b ^^^ 2 ^ q from rfl)
                    have HOLD := Lib.hid (fun h => HL.out.old hbl HFB.out h hnl)
                    have HNEW := Lib.hid (fun h1 h2 => HL.out.new hbl hql HFB.out h1 h2 (mvx_mvx b q))
                    have HST := Lib.hid (fun v => farL_set (far := far) v hnl)
                    have HNE := Lib.hid (show far (mvx b q) < 0 → b ≠ mvx b q from fun h e => by rw [← e, HFB.out] at h; omega)
                    rw [← HNB.out] at hbit
                    generalize mvx b q = nb at *
                    have fn : wo.cell? ⟨g, nb, none⟩ = some (.int .i64 (far nb)) := by rw [HO.out.cellAt nb (by omega), farL_at _ hnl]
                    clear HNB
                    by_cases hneg : far nb < 0
                    · have HNN := Lib.hid hneg
                      have HNA := Lib.hid (HNEW.out · hneg)
                      have HNE1 := Lib.hid (HNE.out hneg)
                      clear HNEW HNE
                      have HFN := Lib.hid (show ¬ (0 ≤ far nb) by omega)
                      generalize far nb = fv at *
                      go_wp2_with fail
                      (with_reducible refine (l10States_any d nb _ hd8 (by omega)).mono ?_)
                      rintro e w2 ⟨v, rfl, hov, hd2⟩
                      have hb2 := HB.out.trans (hd2.mono HB.out.size)
                      obtain ⟨D, dc, rfl, hbo⟩ := hov.read
                      go_wp2_with fail
                      (with_reducible refine (HK.out nb D dc _ hbo hb2).mono ?_)
                      rintro e w3 ⟨rfl, hd3⟩
                      rw [HN.out nb]
                      have HB3 := Lib.hid (hb2.trans (hd3.mono hb2.size))
                      have HO3 := Lib.hid (own_below (own_below HO.out hd2) hd3)
                      have HOW := Lib.hid (show ∀ v, (w3.setCell ⟨g, nb, none⟩ (.int .i64 v)).ownsRow w.heap.size 2 1 (.slice (some ⟨g, 0, none⟩) k gcap) k (intsV (farL k (fun j => if j = nb then v else far j))) from fun v => by
                        have h := (HO3.out.stored nb (.int .i64 v)).1
                        rw [HST.out] at h
                        exact h)
                      have f3 : w3.cell? ⟨g, nb, none⟩ = some (.int .i64 fv) := cellK (cellK fn hd2) hd3
                      have z3 := HO3.out.frozenAt nb
                      have HB4 := Lib.hid (fun v => HB3.out.setCell (p := ⟨g, nb, none⟩) (by show w.heap.size ≤ g; omega) v)
                      clear hov hbo hd2 hd3 hb2 fn HO HB
                      cases hkk : okN xs nb
                      · have HL2 := Lib.hid (HOLD.out (fun h => by rw [hkk] at h; cases h))
                        go_wp2
                        go_roundw
                        case rel => exact ⟨q + 1, far, by omega, by go_num, HFB, HL2, HO3, HB3⟩
                        case measure => simp [intOf]; omega
                      · have HL2 := Lib.hid (HNA.out hkk)
                        go_wp2
                        go_roundw
                        case rel => exact ⟨q + 1, _, by omega, by go_num, Lib.hid (by show (if b = nb then _ else far b) = _; rw [if_neg HNE1.out]; exact HFB.out), HL2, Lib.hid (HOW.out _), Lib.hid (HB4.out _)⟩
                        case measure => simp [intOf]; omega
                    · have HL2 := Lib.hid (HOLD.out (fun _ => by omega))
                      clear HNEW HNE HOLD HST
                      generalize far nb = fv at *
                      go_wp2
                      go_roundw
                      case rel => exact ⟨q + 1, far, by omega, by go_num, HFB, HL2, HO, HB⟩
                      case measure => simp [intOf]; omega
                  · obtain rfl : q = d := by omega
                    have HP := Lib.hid (HL.out.done)
                    go_wp2
                    go_roundw
                    case rel => exact ⟨b + 1, far, by omega, by go_num, HP, HO, HB⟩
                    case measure => simp [intOf]; omega
              · have HP := Lib.hid (HL.out.pass hf)
                have tf : (far b != (stp : Int)) = true := by simp; exact hf
                generalize far b = q at *
                go_wp2
                go_roundw
                case rel => exact ⟨b + 1, far, by omega, by go_num, HP, HO, HB⟩
                case measure => simp [intOf]; omega
            · obtain rfl : b = k := by omega
              have HP := Lib.hid (HL.out.step)
              go_wp2
              go_roundw
              case rel => exact ⟨stp + 1, far, by omega, by go_num, HP, HO, HB⟩
              case measure => simp [intOf]; omega
        · obtain rfl : stp = k := by omega
          have HF := Lib.hid (HL.out.far HMV.out (fun s i _ _ => mvx_mvx s i))
          obtain ⟨m, hm1, hm2, -⟩ := HFM.out far HF.out
          have HG := Lib.hid (HFG.out far HF.out m hm1 hm2)
          have hms : m ≤ stp := by omega
          have f0 : wo.cell? ⟨g, s0, none⟩ = some (.int .i64 (m : Int)) := by rw [HO.out.cellAt s0 (by omega), farL_at _ hs0, hm2]
          obtain ⟨B0, hB0⟩ : ∃ B0, B0 = wo.heap.size := ⟨_, rfl⟩
          have hgl : g < B0 := by rw [hB0]; exact (HO.out.lt g rfl).2
          have hBw : w.heap.size ≤ B0 := by rw [hB0]; exact HB.out.size
          have hm0 : (0 : Int) ≤ (m : Int) := by omega
          go_wp2_with fail
          (with_reducible refine (HQ1.out _ HB.out).mono ?_)
          rintro e w' ⟨rfl, rfl⟩
          go_wp2
          go_loopw [15, 16] (fun at' out wr => ∃ (a r : Nat) (ys : List Nat), a < stp ∧ at' = .int .i64 a ∧ Hid (far a = (r : Int) ∧ r ≤ stp ∧ ys ++ gr d mvx far r a = gr d mvx far m s0) ∧ Hid (wr.ownsRow w.heap.size 2 1 (.slice (some ⟨g, 0, none⟩) stp gcap) stp (intsV (farL stp far))) ∧ Hid (wr.ownsRow B0 2 1 out ys.length (intsV (ys.map (fun (d : Nat) => (d : Int))))) ∧ Hid (B0 ≤ wr.heap.size ∧ Below w.heap.size w wr)) (fun at' out wr => (far (intOf at').toNat).toNat)
          case atStart => exact ⟨s0, m, [], hs0, rfl, Lib.hid ⟨hm2, hms, rfl⟩, Lib.hid (HO.out.alloc _), Lib.hid (World.ownsRow_lit _ _ 0 (by omega) (by simp [maxLen]) rfl), Lib.hid ⟨by rw [hB0]; simp, HB.out.alloc HB.out.size _⟩⟩
          case round =>
            clear HO HB f0 hB0
            obtain ⟨wv, rfl⟩ : ∃ wv : World, wv = wr := ⟨_, rfl⟩
            obtain ⟨a, r, ys, ha, rfl, HR3, HO, HOUT, HB⟩ := hrel
            have fa : wv.cell? ⟨g, a, none⟩ = some (.int .i64 (r : Int)) := by rw [HO.out.cellAt a (by omega), farL_at _ ha, HR3.out.1]
            have hrs := HR3.out.2.1
            have HYL := Lib.hid (show ys.length + r = m by have := congrArg List.length HR3.out.2.2; rw [List.length_append, gr_len, gr_len] at this; exact this)
            have hyl : ys.length ≤ stp := by have := HYL.out; omega
            by_cases h0 : r = 0
            · subst h0
              have HYS := Lib.hid (show fmL st1 st2 xs = ys.map (fun (d : Nat) => (d : Int)) by rw [HE.out.2, HG.out, ← HR3.out.2.2]; simp [gr])
              have HOI := Lib.hid ((ownI_raw (List.length_map ..)).2 HOUT.out)
              obtain ⟨D4, c4, hv4⟩ := HOI.out.form
              subst hv4
              go_wp2
              go_ret2
              exact ⟨_, ret_vy HE.out.1.symm, by rw [HYS.out]; exact own_ley HOI.out hBw, HB.out.2⟩
            · obtain ⟨r, rfl⟩ : ∃ j, r = j + 1 := ⟨r - 1, by omega⟩
              have hfa := HR3.out.1
              obtain ⟨vo, hvo⟩ : ∃ vo, vo = u16 := ⟨_, rfl⟩
              subst hvo
              rw [Int.natCast_add, Int.natCast_one] at fa
              go_wp2
              go_loopw [15, 16, 17] (fun at' out i wr => ∃ q : Nat, at' = .int .i64 a ∧ out = vo ∧ q ≤ d ∧ i = .int .i64 q ∧ Hid (∀ j, j < q → far (mvx a j) ≠ far a - 1) ∧ Hid (wr.ownsRow w.heap.size 2 1 (.slice (some ⟨g, 0, none⟩) stp gcap) stp (intsV (farL stp far))) ∧ Hid (wr.ownsRow B0 2 1 vo ys.length (intsV (ys.map (fun (d : Nat) => (d : Int))))) ∧ Hid (B0 ≤ wr.heap.size ∧ Below w.heap.size w wr)) (fun at' out i wr => d - (intOf i).toNat)
              case atStart => exact ⟨0, rfl, rfl, by omega, rfl, Lib.hid (fun j h => absurd h (by omega)), HO, HOUT, HB⟩
              case round =>
                clear HO HOUT HB fa
                obtain ⟨wx, rfl⟩ : ∃ wx : World, wx = wr := ⟨_, rfl⟩
                obtain ⟨q, rfl, rfl, hq, rfl, HM, HO, HOUT, HB⟩ := hrel
                by_cases hql : q < d
                · have hbit := i64_xor q (by omega) a (by omega)
                  have hnl := HMV.out a q ha hql
                  have HNB := Lib.hid (show mvx a q = a ^^^ 2 ^ q from rfl)
                  have HGR := Lib.hid (show far (mvx a q) = (r : Int) → (ys ++ [q]) ++ gr d mvx far r (mvx a q) = gr d mvx far m s0 from fun h => by
                    have e := gd_eq (nx := mvx) (far := far) hql (by rw [h, hfa]; omega) HM.out
                    rw [← HR3.out.2.2, gr, e]
                    simp)
                  have HMN := Lib.hid (show far (mvx a q) ≠ (r : Int) → ∀ j, j < q + 1 → far (mvx a j) ≠ far a - 1 from fun h j hj => by
                    rcases Nat.lt_or_ge j q with z | z
                    · exact HM.out j z
                    · obtain rfl : j = q := by omega
                      rw [hfa]; omega)
                  rw [← HNB.out] at hbit
                  have fa : wx.cell? ⟨g, a, none⟩ = some (.int .i64 ((r : Int) + 1)) := by rw [HO.out.cellAt a (by omega), farL_at _ ha, hfa]; rfl
                  generalize mvx a q = nb at *
                  have fn : wx.cell? ⟨g, nb, none⟩ = some (.int .i64 (far nb)) := by rw [HO.out.cellAt nb (by omega), farL_at _ hnl]
                  have HFNB := Lib.hid (show far nb = far nb from rfl)
                  obtain ⟨fv, hfv⟩ : ∃ fv, fv = far nb := ⟨_, rfl⟩
                  have HFV := Lib.hid hfv
                  rw [← hfv] at fn
                  clear HFNB HNB hfv
                  have hzx : B0 ≤ wx.heap.size ∨ True := .inr trivial
                  have hw : IntKind.i64.wrap (r : Int) = (r : Int) := by rw [IntKind.wrap_i64]; omega
                  by_cases hcase : fv = (r : Int)
                  · have te : ((r : Int) == IntKind.i64.wrap (r : Int)) = true := by rw [hw]; simp
                    have HGR2 := Lib.hid (HGR.out (by rw [← HFV.out]; exact hcase))
                    have hfn2 : far nb = (r : Int) := by rw [← HFV.out]; exact hcase
                    go_wp2_with fail
                    refine wp_region_held (S := fun w' => (w'.cell? ⟨g, nb, none⟩ = some (.int .i64 fv) ∧ w'.cell? ⟨g, a, none⟩ = some (.int .i64 ((r : Int) + 1))) ∧ Below wx.heap.size wx w') (by kernel_rfl) ?_
                    try (change wpAnyH _ _ _ _ _ _ _ _ (World.drew _))
                    have hS0 := (show (wx.drew.cell? ⟨g, nb, none⟩ = some (.int .i64 fv) ∧ wx.drew.cell? ⟨g, a, none⟩ = some (.int .i64 ((r : Int) + 1))) ∧ Below wx.heap.size wx wx.drew from ⟨⟨fn, fa⟩, Below.drew (Below.refl _ _)⟩)
                    refine gTake 0 (v := ?_) rfl (by kernel_rfl) (by kernel_rfl) (by kernel_rfl) (fun _ _ _ h => h) (by kernel_rfl) ?_ hS0 ?_
                    rotate_left
                    · (intro W hW; clear hW; go_simp; try with_reducible rfl)
                    refine gTake 1 (v := ?_) rfl (by kernel_rfl) (by kernel_rfl) (by kernel_rfl) (fun _ _ _ h => h) (by kernel_rfl) ?_ hS0 ?_
                    rotate_left
                    · (intro W hW; clear hW; go_simp; try with_reducible rfl)
                    refine gTake 2 (v := ?_) rfl (by kernel_rfl) (by kernel_rfl) (by kernel_rfl) (fun _ _ _ h => h) (by kernel_rfl) ?_ hS0 ?_
                    rotate_left
                    · (intro W hW; clear hW; go_simp; try with_reducible rfl)
                    refine gTake 3 (v := ?_) rfl (by kernel_rfl) (by kernel_rfl) (by kernel_rfl) (fun _ _ _ h => h) (by kernel_rfl) ?_ hS0 ?_
                    rotate_left
                    · (intro W hW; have q0 := hW.1.1; have q1 := hW.1.2; clear hW; go_simp; try with_reducible rfl)
                    refine gTake 4 (v := ?_) rfl (by kernel_rfl) (by kernel_rfl) (by kernel_rfl) (fun _ _ _ h => h) (by kernel_rfl) ?_ hS0 ?_
                    rotate_left
                    · (intro W hW; clear hW; go_simp; try with_reducible rfl)
                    refine gTake 5 (v := ?_) rfl (by kernel_rfl) (by kernel_rfl) (by kernel_rfl) (fun _ _ _ h => h) (by kernel_rfl) ?_ hS0 ?_
                    rotate_left
                    · (intro W hW; clear hW; go_simp; try with_reducible rfl)
                    refine gTake 6 (v := ?_) rfl (by kernel_rfl) (by kernel_rfl) (by kernel_rfl) (fun _ _ _ h => h) (by kernel_rfl) ?_ hS0 ?_
                    rotate_left
                    · (intro W hW; clear hW; go_simp; try with_reducible rfl)
                    refine gTake 7 (v := ?_) rfl (by kernel_rfl) (by kernel_rfl) (by kernel_rfl) (fun _ _ _ h => h) (by kernel_rfl) ?_ hS0 ?_
                    rotate_left
                    · (intro W hW; have q0 := hW.1.1; have q1 := hW.1.2; clear hW; go_simp; try with_reducible rfl)
                    refine gTake 8 (v := ?_) rfl (by kernel_rfl) (by kernel_rfl) (by kernel_rfl) (fun _ _ _ h => h) (by kernel_rfl) ?_ hS0 ?_
                    rotate_left
                    · (intro W hW; clear hW; go_simp; try with_reducible rfl)
                    refine gTake 9 (v := ?_) rfl (by kernel_rfl) (by kernel_rfl) (by kernel_rfl) (fun _ _ _ h => h) (by kernel_rfl) ?_ hS0 ?_
                    rotate_left
                    · (intro W hW; clear hW; go_simp; try with_reducible rfl)
                    refine wpAnyH_done (by kernel_rfl) ?_ _
                    go_simp
                    have HOUTd := Lib.hid (show wx.drew.ownsRow B0 2 1 u16 ys.length (intsV (ys.map (fun (d : Nat) => (d : Int)))) from HOUT.out)
                    have HOd := Lib.hid (show wx.drew.ownsRow w.heap.size 2 1 (.slice (some ⟨g, 0, none⟩) stp gcap) stp (intsV (farL stp far)) from HO.out)
                    have HBd := Lib.hid (Below.drew HB.out.2)
                    have hBx : B0 ≤ wx.heap.size := HB.out.1
                    go_wp2_with (at_builtin; refine wpList_append_own _ rfl _ _ 43 rfl B0 2 i0 (.int .i64 0) 1 8 Try.underlying43 hi hz0 hz1 hz2 rfl (by decide) _ _ _ rfl (HOUTd.out.alloc _) ⟨wx.heap.size, 0, none⟩ 1 1 [.int .i64 (q : Int)] rfl rfl ?d1z ?d2z ?d3z ?d4z ?d5z ?_)
                    try (case d1z => intro j u hj; match j, hj with | 0, hj => (simp at hj; subst hj; simp [Addr.add]) | j + 1, hj => (simp at hj))
                    try (case d2z => simp [Value.oneCell'])
                    try (case d3z => unfold maxLen; omega)
                    try (case d4z => omega)
                    try (case d5z => first | omega | (simp; omega))
                    intro v3 w3 ho3 hg3 _
                    have HO3 := Lib.hid ((ownI_raw (farL_len _ _)).1 (OwnI.apart ((ownI_raw (farL_len stp far)).2 (HOd.out.alloc _)) (fun k hk => by have h : g = k := (by injection hk); omega) ((ownI_raw (List.length_map ..)).2 (HOUTd.out.alloc _)) hg3))
                    have HOUT3 := Lib.hid (show w3.ownsRow B0 2 1 v3 (ys ++ [q]).length (intsV ((ys ++ [q]).map (fun (d : Nat) => (d : Int)))) by rw [List.map_append]; simpa [intsV] using ho3)
                    have HB3 := Lib.hid (show B0 ≤ w3.heap.size ∧ Below w.heap.size w w3 from ⟨by have := hg3.size; simp at this; omega, (HBd.out.alloc HBd.out.size _).grown hg3 (by simp; omega) (fun k hk => Nat.le_trans hBw (HOUT.out.lt k hk).1)⟩)
                    clear ho3 hg3
                    go_wp2
                    go_roundw
                    case rel => exact ⟨nb, r, ys ++ [q], hnl, rfl, Lib.hid ⟨hfn2, by omega, HGR2.out⟩, HO3, HOUT3, HB3⟩
                    case measure => simp [intOf, hfn2, hfa]
                  · have te : (fv == IntKind.i64.wrap (r : Int)) = false := by rw [hw]; simp; exact hcase
                    have HMN2 := Lib.hid (HMN.out (by rw [← HFV.out]; exact hcase))
                    go_wp2_with fail
                    refine wp_region_held (S := fun w' => (w'.cell? ⟨g, nb, none⟩ = some (.int .i64 fv) ∧ w'.cell? ⟨g, a, none⟩ = some (.int .i64 ((r : Int) + 1))) ∧ Below wx.heap.size wx w') (by kernel_rfl) ?_
                    try (change wpAnyH _ _ _ _ _ _ _ _ (World.drew _))
                    have hS0 := (show (wx.drew.cell? ⟨g, nb, none⟩ = some (.int .i64 fv) ∧ wx.drew.cell? ⟨g, a, none⟩ = some (.int .i64 ((r : Int) + 1))) ∧ Below wx.heap.size wx wx.drew from ⟨⟨fn, fa⟩, Below.drew (Below.refl _ _)⟩)
                    refine gTake 0 (v := ?_) rfl (by kernel_rfl) (by kernel_rfl) (by kernel_rfl) (fun _ _ _ h => h) (by kernel_rfl) ?_ hS0 ?_
                    rotate_left
                    · (intro W hW; clear hW; go_simp; try with_reducible rfl)
                    refine gTake 1 (v := ?_) rfl (by kernel_rfl) (by kernel_rfl) (by kernel_rfl) (fun _ _ _ h => h) (by kernel_rfl) ?_ hS0 ?_
                    rotate_left
                    · (intro W hW; clear hW; go_simp; try with_reducible rfl)
                    refine gTake 2 (v := ?_) rfl (by kernel_rfl) (by kernel_rfl) (by kernel_rfl) (fun _ _ _ h => h) (by kernel_rfl) ?_ hS0 ?_
                    rotate_left
                    · (intro W hW; clear hW; go_simp; try with_reducible rfl)
                    refine gTake 3 (v := ?_) rfl (by kernel_rfl) (by kernel_rfl) (by kernel_rfl) (fun _ _ _ h => h) (by kernel_rfl) ?_ hS0 ?_
                    rotate_left
                    · (intro W hW; have q0 := hW.1.1; have q1 := hW.1.2; clear hW; go_simp; try with_reducible rfl)
                    refine gTake 4 (v := ?_) rfl (by kernel_rfl) (by kernel_rfl) (by kernel_rfl) (fun _ _ _ h => h) (by kernel_rfl) ?_ hS0 ?_
                    rotate_left
                    · (intro W hW; clear hW; go_simp; try with_reducible rfl)
                    refine gTake 5 (v := ?_) rfl (by kernel_rfl) (by kernel_rfl) (by kernel_rfl) (fun _ _ _ h => h) (by kernel_rfl) ?_ hS0 ?_
                    rotate_left
                    · (intro W hW; clear hW; go_simp; try with_reducible rfl)
                    refine gTake 6 (v := ?_) rfl (by kernel_rfl) (by kernel_rfl) (by kernel_rfl) (fun _ _ _ h => h) (by kernel_rfl) ?_ hS0 ?_
                    rotate_left
                    · (intro W hW; clear hW; go_simp; try with_reducible rfl)
                    refine gTake 7 (v := ?_) rfl (by kernel_rfl) (by kernel_rfl) (by kernel_rfl) (fun _ _ _ h => h) (by kernel_rfl) ?_ hS0 ?_
                    rotate_left
                    · (intro W hW; have q0 := hW.1.1; have q1 := hW.1.2; clear hW; go_simp; try with_reducible rfl)
                    refine gTake 8 (v := ?_) rfl (by kernel_rfl) (by kernel_rfl) (by kernel_rfl) (fun _ _ _ h => h) (by kernel_rfl) ?_ hS0 ?_
                    rotate_left
                    · (intro W hW; clear hW; go_simp; try with_reducible rfl)
                    refine gTake 9 (v := ?_) rfl (by kernel_rfl) (by kernel_rfl) (by kernel_rfl) (fun _ _ _ h => h) (by kernel_rfl) ?_ hS0 ?_
                    rotate_left
                    · (intro W hW; clear hW; go_simp; try with_reducible rfl)
                    refine wpAnyH_done (by kernel_rfl) ?_ _
                    go_simp
                    go_wp2
                    go_roundw
                    case rel => exact ⟨q + 1, rfl, rfl, by omega, by go_num, HMN2, Lib.hid HO.out, Lib.hid HOUT.out, Lib.hid ⟨HB.out.1, Below.drew HB.out.2⟩⟩
                    case measure => simp [intOf]; omega
                · obtain ⟨e, he, hfe⟩ := HF.out.some_near ha (by omega) hfa
                  exact absurd (by rw [hfe, hfa]; omega) (HM.out e (by omega))
end Go.Proofs.Ythbofhlfggkolaa
