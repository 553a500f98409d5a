/-
  Contracts of chapter 10: states that keep all locks; the model's and the program's. Conditions: those that each theorem states.
-/
import Derived.Test.YthbofhlfggkolaaJl
import Derived.Test.YthbofhlfggkolaaJo
import Derived.Test.YthbofhlfggkolaaZr
import Derived.Laws.BitsAllLaws
namespace Go.Proofs.Ythbofhlfggkolaa
open Go.RowKit
set_option linter.unusedVariables false
set_option linter.unusedSimpArgs false

/-- Whether what is open keeps all locks. -/
def kb (f : Nat → Bool) (xs : List (List Int)) : Bool := xs.all (fun x => !(f (x.getD 0 0).toNat && f (x.getD 1 0).toNat))
theorem kb_iff {f : Nat → Bool} {xs : List (List Int)} : kb f xs = true ↔ ∀ i, i < xs.length → (f ((lkAt xs i).getD 0 0).toNat && f ((lkAt xs i).getD 1 0).toNat) = false := by
  unfold kb
  rw [List.all_eq_true]
  constructor
  · intro h i hi
    have := h xs[i] (List.getElem_mem hi)
    rw [lkAt_lt hi]
    simpa only [Bool.not_eq_true'] using this
  · intro h x hx
    obtain ⟨i, hi, rfl⟩ := List.mem_iff_getElem.1 hx
    have := h i hi
    rw [lkAt_lt hi] at this
    rw [this]; rfl
theorem kb_bad {f : Nat → Bool} {xs : List (List Int)} {i : Nat} (hi : i < xs.length) (h : (f ((lkAt xs i).getD 0 0).toNat && f ((lkAt xs i).getD 1 0).toNat) = true) : kb f xs = false := by
  rw [← Bool.not_eq_true, kb_iff]
  intro hh
  rw [hh i hi] at h; cases h
theorem kb_congr {f g : Nat → Bool} {n : Int} {xs : List (List Int)} (hok : lksOk n xs = true) (h : ∀ i : Nat, (i : Int) < n → f i = g i) : kb f xs = kb g xs := by
  have key : ∀ i, i < xs.length → (f ((lkAt xs i).getD 0 0).toNat && f ((lkAt xs i).getD 1 0).toNat) = (g ((lkAt xs i).getD 0 0).toNat && g ((lkAt xs i).getD 1 0).toNat) := by
    intro i hi
    obtain ⟨a, b, he, ha, hb⟩ := lks_each hok hi
    rw [lkAt_lt hi, he]
    show (f a.toNat && f b.toNat) = (g a.toNat && g b.toNat)
    rw [h a.toNat (by omega), h b.toNat (by omega)]
  rw [Bool.eq_iff_iff, kb_iff, kb_iff]
  exact ⟨fun hh i hi => by rw [← key i hi]; exact hh i hi, fun hh i hi => by rw [key i hi]; exact hh i hi⟩
def stF (st : List Bool) (i : Nat) : Bool := st.getD i false
theorem stF_lt {st : List Bool} {i : Nat} (h : i < st.length) : stF st i = st[i] := by simp [stF, List.getD, h]
/-- Valid locks that these states keep. -/
def lkdOk (st : List Bool) (xs : List (List Int)) : Bool := lksOk st.length xs && kb (stF st) xs
set_option maxHeartbeats 2000000 in
theorem l10Keeps_any (D : Option Addr) (dcap : Nat) (st : List Bool) (A : Option Addr) (cap : Nat) (xs : List (List Int)) (w : World) (hd : BoR w D st) (hr : RowsR w A xs) (hok : lksOk st.length xs = true) :
    Calls Try.prog 67 #[.slice D st.length dcap, .slice A xs.length cap] w fun e w' => e = .returned (.bool (kb (stF st) xs)) ∧ Below w.heap.size w w' := by
  have h12 := (lksOk_iff.1 hok).2.1
  have hst8 := (lksOk_iff.1 hok).1.2
  have HR := Lib.hid hr
  have HD := Lib.hid hd
  have HOK := Lib.hid hok
  clear hr hd hok
  go_enter Try.func67, Try.ntmps67
  go_wp2
  go_loopw [5] (fun i wr => ∃ k : Nat, k ≤ xs.length ∧ i = .int .i64 k ∧ Hid (∀ j, j < k → (stF st ((lkAt xs j).getD 0 0).toNat && stF st ((lkAt xs j).getD 1 0).toNat) = false) ∧ Below w.heap.size w wr) (fun i wr => xs.length - (intOf i).toNat)
  case atStart => exact ⟨0, by omega, rfl, Lib.hid (fun j hj => absurd hj (by omega)), Below.refl _ _⟩
  case round =>
    obtain ⟨k, hk, rfl, HG, hbel⟩ := hrel
    obtain ⟨wo, rfl⟩ : ∃ wo : World, wo = wr := ⟨_, rfl⟩
    by_cases hlt : k < xs.length
    · obtain ⟨bl, off, Ax, cx, rfl, lX, hrw⟩ := (HR.out.below hbel).row hlt
      obtain ⟨a, b, he, ha, hb⟩ := lks_each HOK.out hlt
      have HP := Lib.hid (show (stF st ((lkAt xs k).getD 0 0).toNat && stF st ((lkAt xs k).getD 1 0).toNat) = (stF st a.toNat && stF st b.toNat) by rw [lkAt_lt hlt, he]; rfl)
      rw [he] at lX hrw
      clear he
      obtain ⟨an, rfl⟩ : ∃ an : Nat, a = an := ⟨a.toNat, by omega⟩
      obtain ⟨bn, rfl⟩ : ∃ bn : Nat, b = bn := ⟨b.toNat, by omega⟩
      have hal : an < st.length := by omega
      have hbl : bn < st.length := by omega
      simp only [Int.toNat_natCast] at HP
      rw [stF_lt hal, stF_lt hbl] at HP
      obtain ⟨gx, ox, rfl, -, x0, x1⟩ := row_two hrw
      simp only [List.length_cons, List.length_nil, Nat.zero_add, Nat.reduceAdd] at lX
      obtain ⟨bs, os, rfl, s0⟩ := (HD.out.below hbel) an hal
      obtain ⟨bs', os', e2, s1⟩ := (HD.out.below hbel) bn hbl
      injection e2 with e2
      injection e2 with e21 e22
      subst e21
      subst e22
      clear hrw
      generalize st[an] = p at *
      generalize st[bn] = q at *
      cases p
      · have HF := Lib.hid (show (stF st ((lkAt xs k).getD 0 0).toNat && stF st ((lkAt xs k).getD 1 0).toNat) = false by rw [HP.out]; rfl)
        go_wp2
        go_roundw
        case rel => exact ⟨k + 1, by omega, by go_num, Lib.hid (fun j hj => by
          rcases Nat.lt_or_ge j k with q | q
          · exact HG.out j q
          · obtain rfl : j = k := by omega
            exact HF.out), hbel⟩
        case measure => simp [intOf]; omega
      · cases q
        · have HF := Lib.hid (show (stF st ((lkAt xs k).getD 0 0).toNat && stF st ((lkAt xs k).getD 1 0).toNat) = false by rw [HP.out]; rfl)
          go_wp2
          go_roundw
          case rel => exact ⟨k + 1, by omega, by go_num, Lib.hid (fun j hj => by
            rcases Nat.lt_or_ge j k with q | q
            · exact HG.out j q
            · obtain rfl : j = k := by omega
              exact HF.out), hbel⟩
          case measure => simp [intOf]; omega
        · have HF := Lib.hid (kb_bad (f := stF st) hlt (by rw [HP.out]; rfl))
          go_wp2
          go_ret
          exact ⟨ret_bool HF.out.symm, hbel⟩
    · obtain rfl : k = xs.length := by omega
      have HF := Lib.hid (show kb (stF st) xs = true from kb_iff.2 (fun j hj => HG.out j hj))
      go_wp2
      go_ret
      exact ⟨ret_bool HF.out.symm, hbel⟩
theorem l10Locked_any (D : Option Addr) (dcap : Nat) (st : List Bool) (A : Option Addr) (cap : Nat) (xs : List (List Int)) (w : World) (hd : BoR w D st) (hdl : st.length ≤ 1048576) (hr : RowsR w A xs) (hl : xs.length ≤ 1048576) (hls : ∀ r ∈ xs, r.length ≤ 1048576) :
    Calls Try.prog 65 #[.slice D st.length dcap, .slice A xs.length cap] w fun e w' => e = .returned (.bool (lkdOk st xs)) ∧ Below w.heap.size w w' := by
  have HC := Lib.hid (l10Locks_any st.length A cap xs w hr hl hls)
  cases hok : lksOk st.length xs
  · have HF := Lib.hid (show lkdOk st xs = false by unfold lkdOk; rw [hok]; rfl)
    go_enter Try.func65, Try.ntmps65
    go_wp2_with fail
    (with_reducible refine (HC.out).mono ?_)
    rintro e w1 ⟨rfl, hd1⟩
    rw [hok]
    go_wp2
    go_ret
    exact ⟨ret_bool HF.out.symm, hd1⟩
  · have HF := Lib.hid (show lkdOk st xs = kb (stF st) xs by unfold lkdOk; rw [hok]; rfl)
    have HK := Lib.hid (fun W (h : Below w.heap.size w W) => l10Keeps_any D dcap st A cap xs W (hd.below h) (hr.below h) hok)
    go_enter Try.func65, Try.ntmps65
    go_wp2_with fail
    (with_reducible refine (HC.out).mono ?_)
    rintro e w1 ⟨rfl, hd1⟩
    rw [hok]
    go_wp2_with fail
    (with_reducible refine (HK.out _ hd1).mono ?_)
    rintro e w2 ⟨rfl, hd2⟩
    go_wp2
    go_ret
    exact ⟨ret_bool HF.out.symm, hd1.trans (hd2.mono hd1.size)⟩
theorem moved_any (s d : Nat) (w : World) (hs : s < 256) (hd : d < 8) :
    Calls Try.prog 92 #[.int .u8 (s : Int), .int .i64 (d : Int)] w fun e w' => e = .returned (.int .u8 ((s ^^^ 2 ^ d : Nat) : Int)) ∧ w = w' := by
  have hp : ∀ d, d < 8 → 2 ^ d < 256 := by decide
  have hp2 := hp d hd
  have hx : bits .xor .u8 (s : Int) ((2 : Int) ^ d % 256) = ((s ^^^ 2 ^ d : Nat) : Int) := by
    have e : (2 : Int) ^ d % 256 = ((2 ^ d : Nat) : Int) := by
      rw [show (2 : Int) ^ d = ((2 ^ d : Nat) : Int) by simp]
      generalize (2 ^ d : Nat) = p at hp2 ⊢
      omega
    rw [e]
    exact u8_xor_nat _ _ hs hp2
  go_enter Try.func92, Try.ntmps92
  go_wp2
  go_ret
  exact ⟨rfl, rfl⟩
theorem hasAll_any (s m : Nat) (w : World) (hs : s < 256) (hm : m < 256) :
    Calls Try.prog 99 #[.int .u8 (s : Int), .int .u8 (m : Int)] w fun e w' => e = .returned (.bool (decide (s &&& m = m))) ∧ w = w' := by
  have hx : bits .and .u8 (s : Int) (m : Int) = ((s &&& m : Nat) : Int) := u8_and_nat _ _ hs hm
  go_enter Try.func99, Try.ntmps99
  go_wp2
  go_ret
  exact ⟨ret_bool (by rw [Bool.eq_iff_iff]; simp; omega), rfl⟩
def lkM (x : List Int) : Nat := (0 ^^^ 2 ^ (x.getD 0 0).toNat) ^^^ 2 ^ (x.getD 1 0).toNat
def msV (ms : List Nat) : List Value := ms.map (fun (m : Nat) => Value.int .u8 (m : Int))
def keepM (m : Nat) (ms : List Nat) : Bool := ms.all (fun q => !(decide (m &&& q = q)))
set_option maxRecDepth 1000000 in
theorem dec_bits : ∀ o, o < 256 → ∀ b, b < 8 → ∀ a, a < b → decide (o &&& ((0 ^^^ 2 ^ a) ^^^ 2 ^ b) = ((0 ^^^ 2 ^ a) ^^^ 2 ^ b)) = (o.testBit a && o.testBit b) := by decide +kernel
theorem dec_mask : ∀ b, b < 8 → ∀ a, a < b → ((0 ^^^ 2 ^ a) ^^^ 2 ^ b) < 256 ∧ (0 ^^^ 2 ^ a) < 256 := by decide +kernel
theorem keepM_kb {n : Int} {xs : List (List Int)} (hok : lksOk n xs = true) {m : Nat} (hm : m < 256) : keepM m (xs.map lkM) = kb m.testBit xs := by
  have hn := (lksOk_iff.1 hok).1.2
  rw [Bool.eq_iff_iff, kb_iff]
  unfold keepM
  rw [List.all_eq_true]
  have key : ∀ i (hi : i < xs.length), decide (m &&& lkM xs[i] = lkM xs[i]) = (m.testBit ((lkAt xs i).getD 0 0).toNat && m.testBit ((lkAt xs i).getD 1 0).toNat) := by
    intro i hi
    obtain ⟨a, b, he, ha, hb⟩ := lks_each hok hi
    rw [lkAt_lt hi, he]
    exact dec_bits m hm b.toNat (by omega) a.toNat (by omega)
  constructor
  · intro h i hi
    have := h (lkM xs[i]) (List.mem_map.2 ⟨_, List.getElem_mem hi, rfl⟩)
    rw [key i hi] at this
    simpa only [Bool.not_eq_true'] using this
  · intro h q hq
    obtain ⟨x, hx, rfl⟩ := List.mem_map.1 hq
    obtain ⟨i, hi, rfl⟩ := List.mem_iff_getElem.1 hx
    rw [key i hi, h i hi]; rfl
theorem lkM_lt {n : Int} {xs : List (List Int)} (hok : lksOk n xs = true) : ∀ q ∈ xs.map lkM, q < 256 := by
  intro q hq
  have hn := (lksOk_iff.1 hok).1.2
  obtain ⟨x, hx, rfl⟩ := List.mem_map.1 hq
  obtain ⟨i, hi, rfl⟩ := List.mem_iff_getElem.1 hx
  obtain ⟨a, b, he, ha, hb⟩ := lks_each hok hi
  rw [he]
  exact (dec_mask b.toNat (by omega) a.toNat (by omega)).1
/-- What is open, as a number. -/
def openM (st : List Bool) : Nat → Nat
  | 0 => 0
  | k + 1 => if stF st k = true then openM st k ^^^ 2 ^ k else openM st k
theorem openM_lt (st : List Bool) : ∀ k, openM st k < 2 ^ k
  | 0 => by simp [openM]
  | k + 1 => by
    have := openM_lt st k
    unfold openM
    split
    · exact Nat.xor_lt_two_pow (by rw [Nat.pow_succ]; omega) (by rw [Nat.pow_succ]; have := Nat.two_pow_pos k; omega)
    · rw [Nat.pow_succ]; omega
theorem openM_bit (st : List Bool) : ∀ k i, (openM st k).testBit i = (decide (i < k) && stF st i)
  | 0, i => by simp [openM]
  | k + 1, i => by
    have ih := openM_bit st k
    unfold openM
    by_cases hk : stF st k = true
    · rw [if_pos hk, Nat.testBit_xor, ih, Nat.testBit_two_pow]
      by_cases e : i = k
      · subst e; simp [hk]
      · by_cases hlt : i < k
        · simp [hlt, show i < k + 1 by omega, show ¬ k = i by omega]
        · simp [hlt, show ¬ i < k + 1 by omega, show ¬ k = i by omega]
    · rw [if_neg hk, ih]
      by_cases e : i = k
      · subst e; simp [hk]
      · by_cases hlt : i < k
        · simp [hlt, show i < k + 1 by omega]
        · simp [hlt, show ¬ i < k + 1 by omega]
theorem openM_256 (st : List Bool) {k : Nat} (h : k ≤ 8) : openM st k < 256 := Nat.lt_of_lt_of_le (openM_lt st k) (Nat.pow_le_pow_right (by omega) h)
theorem openOf_any (D : Option Addr) (dcap : Nat) (st : List Bool) (w : World) (hd : BoR w D st) (hdl : st.length ≤ 8) :
    Calls Try.prog 72 #[.slice D st.length dcap] w fun e w' => e = .returned (.int .u8 (openM st st.length : Int)) ∧ w = w' := by
  have HD := Lib.hid hd
  clear hd
  go_enter Try.func72, Try.ntmps72
  go_wp2
  go_loop [3, 8] (fun s i => ∃ k o : Nat, k ≤ st.length ∧ i = .int .i64 k ∧ s = .int .u8 (o : Int) ∧ Hid (openM st k = o)) (fun s i => st.length - (intOf i).toNat)
  case atStart => exact ⟨0, 0, by omega, rfl, rfl, Lib.hid rfl⟩
  case round =>
    obtain ⟨k, o, hk, rfl, rfl, HO⟩ := hrel
    by_cases hlt : k < st.length
    · obtain ⟨bs, os, rfl, s0⟩ := HD.out k hlt
      have ho : o < 256 := by rw [← HO.out]; exact openM_256 st (by omega)
      have HN := Lib.hid (show openM st (k + 1) = if st[k] = true then o ^^^ 2 ^ k else o by rw [← HO.out, ← stF_lt hlt]; rfl)
      generalize st[k] = p at *
      cases p
      · have HF := Lib.hid (show openM st (k + 1) = o by rw [HN.out]; rfl)
        go_wp2
        go_round
        case rel => exact ⟨k + 1, o, by omega, by go_num, rfl, HF⟩
        case measure => simp [intOf]; omega
      · have HF := Lib.hid (show openM st (k + 1) = o ^^^ 2 ^ k by rw [HN.out]; rfl)
        go_wp2_with (go_at_call 92; (with_reducible refine (moved_any o k _ ho (by omega)).mono ?_); rintro e w' ⟨rfl, rfl⟩)
        go_round
        case rel => exact ⟨k + 1, _, by omega, by go_num, rfl, HF⟩
        case measure => simp [intOf]; omega
    · obtain rfl : k = st.length := by omega
      go_wp2
      go_ret
      exact ⟨by rw [HO.out]; rfl, rfl⟩
theorem msV_get (ms : List Nat) (k : Nat) (h : k < ms.length) : (msV ms)[k]? = some (.int .u8 (ms[k] : Int)) := by simp [msV, h]
set_option maxHeartbeats 1000000 in
theorem indexM_any (B : Nat) (v : Value) (ms : List Nat) (m : Nat) (w : World) (hown : w.ownsRow B 97 1 v ms.length (msV ms)) (hm : m < 256) (hq : ∀ q ∈ ms, q < 256) (hl : ms.length ≤ 1000) :
    Calls Try.prog 107 #[v, .func (.func 99) #[.int .u8 (m : Int)] #[]] w fun e w' => ∃ z : Int, e = .returned (.int .i64 z) ∧ Hid (decide (0 ≤ z) = !(keepM m ms)) ∧ (-1 ≤ z ∧ z ≤ 1000) ∧ w = w' := by
  obtain ⟨A, cap, rfl⟩ : ∃ A cap, v = .slice A ms.length cap := by
    rcases hown.2 with ⟨rfl, h0⟩ | ⟨g, cap, cur, rfl, hr⟩
    · exact ⟨none, 0, by rw [h0]⟩
    · exact ⟨_, cap, rfl⟩
  have HO := Lib.hid hown
  have HQ := Lib.hid hq
  clear hown hq
  go_enter Try.func107, Try.ntmps107
  go_wp2
  go_loop [8] (fun i => ∃ k : Nat, k ≤ ms.length ∧ i = .int .i64 k ∧ Hid (∀ j (h : j < ms.length), j < k → (m &&& ms[j] = ms[j]) → False)) (fun i => ms.length - (intOf i).toNat)
  case atStart => exact ⟨0, by omega, rfl, Lib.hid (fun j h hj => absurd hj (by omega))⟩
  case round =>
    obtain ⟨k, hk, rfl, HG⟩ := hrel
    by_cases hlt : k < ms.length
    · obtain ⟨g, cap', e, hg, hgl⟩ := HO.out.form (by omega)
      injection e with e1 e2 e3
      subst e1 e3
      have hc : w.cell? ⟨g, k, none⟩ = some (.int .u8 (ms[k] : Int)) := by rw [HO.out.cellAt k (by omega)]; exact msV_get ms k hlt
      have hqk := HQ.out ms[k] (List.getElem_mem hlt)
      have HKM := Lib.hid (show (m &&& ms[k] = ms[k]) → keepM m ms = false from fun h => by
        rw [← Bool.not_eq_true]
        unfold keepM
        rw [List.all_eq_true]
        intro hh
        have := hh ms[k] (List.getElem_mem hlt)
        simp [h] at this)
      have HGK := Lib.hid (show ¬ (m &&& ms[k] = ms[k]) → ∀ j (h : j < ms.length), j < k + 1 → (m &&& ms[j] = ms[j]) → False from fun hn j h hj => by
        rcases Nat.lt_or_ge j k with q | q
        · exact HG.out j h q
        · obtain rfl : j = k := by omega
          exact hn)
      generalize ms[k] = q at *
      by_cases hx : m &&& q = q
      · have HCT := Lib.hid (fun W => hasAll_any m q W hm hqk)
        rw [decide_eq_true hx] at HCT
        have HF := Lib.hid (HKM.out hx)
        clear hx
        go_wp2_with (go_at_call 99; (with_reducible refine (HCT.out _).mono ?_); rintro e w' ⟨rfl, rfl⟩)
        go_ret
        exact ⟨_, rfl, Lib.hid (by rw [HF.out]; simp), ⟨by omega, by omega⟩, rfl⟩
      · have HCT := Lib.hid (fun W => hasAll_any m q W hm hqk)
        rw [decide_eq_false hx] at HCT
        have HF := Lib.hid (HGK.out hx)
        clear hx
        go_wp2_with (go_at_call 99; (with_reducible refine (HCT.out _).mono ?_); rintro e w' ⟨rfl, rfl⟩)
        go_round
        case rel => exact ⟨k + 1, by omega, by go_num, HF⟩
        case measure => simp [intOf]; omega
    · obtain rfl : k = ms.length := by omega
      have HF := Lib.hid (show keepM m ms = true by
        unfold keepM
        rw [List.all_eq_true]
        intro q hq
        obtain ⟨i, hi, rfl⟩ := List.mem_iff_getElem.1 hq
        have := HG.out i hi hi
        simpa using this)
      go_wp2
      go_ret
      exact ⟨_, rfl, Lib.hid (by rw [HF.out]; simp), ⟨by omega, by omega⟩, rfl⟩
theorem containsM_any (B : Nat) (v : Value) (ms : List Nat) (m : Nat) (w : World) (hown : w.ownsRow B 97 1 v ms.length (msV ms)) (hm : m < 256) (hq : ∀ q ∈ ms, q < 256) (hl : ms.length ≤ 1000) :
    Calls Try.prog 98 #[v, .func (.func 99) #[.int .u8 (m : Int)] #[]] w fun e w' => e = .returned (.bool (!(keepM m ms))) ∧ w = w' := by
  go_enter Try.func98, Try.ntmps98
  go_wp2_with fail
  (with_reducible refine (indexM_any B v ms m w hown hm hq hl).mono ?_)
  rintro e w' ⟨z, rfl, HZ, ⟨z1, z2⟩, rfl⟩
  go_wp2
  go_ret
  exact ⟨ret_bool HZ.out, rfl⟩
theorem keeps_any (B : Nat) (n : Int) (v : Value) (ms : List Nat) (m : Nat) (w : World) (hown : w.ownsRow B 97 1 v ms.length (msV ms)) (hm : m < 256) (hq : ∀ q ∈ ms, q < 256) (hl : ms.length ≤ 1000) :
    Calls Try.prog 91 #[.agg #[.int .i64 n, v], .int .u8 (m : Int)] w fun e w' => e = .returned (.bool (keepM m ms)) ∧ Below w.heap.size w w' := by
  have HC := Lib.hid (containsM_any B v ms m (w.alloc (.cells #[.int .i64 n, v] 94)) (hown.alloc _) hm hq hl)
  go_enter Try.func91, Try.ntmps91
  go_wp2_with fail
  (with_reducible refine (HC.out).mono ?_)
  rintro e w' ⟨rfl, rfl⟩
  go_wp2
  go_ret
  exact ⟨by simp, below_box _ _⟩
end Go.Proofs.Ythbofhlfggkolaa
