/-
  Slices of fans: those that came in, the laws' sizes, copies and comparisons. Conditions: those that each theorem states.
-/
import Derived.Test.YtcnpddmghjjhjaaVd
import Derived.Test.YtcnpddmghjjhjaaGb
namespace Go.Proofs.Ytcnpddmghjjhjaa
open Go.RowKit Go.ChangeShapes Go.WideShapes Go.Deep
set_option linter.unusedVariables false
set_option linter.unusedSimpArgs false

/-- A fan: its name, its airway, its curve. -/
structure Fa where
  s : ByteArray
  a : Int
  xs : List (List Int)
def Fa.ok (f : Fa) : Bool := fanOk f.s f.a f.xs
def Fa.sm (f : Fa) : Prop := f.s.size ≤ 1048576 ∧ f.xs.length ≤ 1048576 ∧ ∀ r ∈ f.xs, r.length ≤ 1048576
/-- A slice that reads as fans (tight: with curves that have no more room than rows). -/
def FansR (tight : Prop) (w : World) (A : Option Addr) (fs : List Fa) : Prop :=
  ∀ k (h : k < fs.length), ∃ b off R cap, A = some ⟨b, off, none⟩ ∧ (w.cell? ⟨b, off + k * 3, none⟩ = some (.string fs[k].s) ∧ w.cell? ⟨b, off + k * 3 + 1, none⟩ = some (.int .i64 fs[k].a) ∧ w.cell? ⟨b, off + k * 3 + 2, none⟩ = some (.slice R fs[k].xs.length cap)) ∧ RowsR w R fs[k].xs ∧ (tight → cap = fs[k].xs.length)
theorem FansR.below {tight : Prop} {w w' : World} {A : Option Addr} {fs : List Fa} (h : FansR tight w A fs) (hb : Below w.heap.size w w') : FansR tight w' A fs := fun k hk => by
  obtain ⟨b, off, R, cap, e, ⟨c0, c1, c2⟩, hr, ht⟩ := h k hk
  exact ⟨b, off, R, cap, e, ⟨cellK c0 hb, cellK c1 hb, cellK c2 hb⟩, hr.below hb, ht⟩
/-- Fans of a size that any may have. -/
def fansFit (fs : List Fa) : Prop := ∀ f ∈ fs, f.s.size ≤ maxLen ∧ f.xs.length ≤ maxLen ∧ rowsFit f.xs
theorem open_fans {H : Type} {enc : TypeId × Value → H} {w : World} {base : Nat} {spare : Nat → Bool} {held : Bool} {fuel : Nat} {cs : List Value} {x : DataW H × List MemPlace}
    (h : DataW.trod enc Try.prog w base spare held fuel 31 cs = some x) :
    ∃ (A : Option Addr) (cap : Nat) (fs : List Fa), cs = [.slice A fs.length cap] ∧ fs.length ≤ maxLen ∧ FansR False w A fs ∧ fansFit fs := by
  obtain ⟨A, len, cap, rfl, hl, hc, hi⟩ := open_elems Try.underlying31 Try.underlying24 (by kernel_rfl) (by kernel_rfl) h
  have hx : ∀ i, i < len → ∃ f : Fa, (f.s.size ≤ maxLen ∧ f.xs.length ≤ maxLen ∧ rowsFit f.xs) ∧ ∃ b off R cap, A = some ⟨b, off, none⟩ ∧ (w.cell? ⟨b, off + i * 3, none⟩ = some (.string f.s) ∧ w.cell? ⟨b, off + i * 3 + 1, none⟩ = some (.int .i64 f.a) ∧ w.cell? ⟨b, off + i * 3 + 2, none⟩ = some (.slice R f.xs.length cap)) ∧ RowsR w R f.xs := by
    intro i hil
    obtain ⟨a, l, hA, hll, hcell, hf⟩ := hi i hil
    obtain ⟨c0, n0, y0, e0, t0⟩ := hf 0 _ rfl
    obtain ⟨c1, n1, y1, e1, t1⟩ := hf 1 _ rfl
    obtain ⟨c2, n2, y2, e2, t2⟩ := hf 2 _ rfl
    obtain ⟨x0, q0, _, w0⟩ := DataW.trod_string Try.underlying9 t0
    obtain ⟨x1, q1, _, w1⟩ := DataW.trod_int Try.underlying2 t1
    obtain ⟨R, cp, xs, q2, hxl, hR, hF⟩ := open_rows t2
    obtain rfl := List.cons.inj q0 |>.1
    obtain rfl := List.cons.inj q1 |>.1
    obtain rfl := List.cons.inj q2 |>.1
    have hsp : ∃ b off, a = ⟨b, off, none⟩ := by
      obtain ⟨a', l', hA', _, hc', hf'⟩ := hi 0 (by omega)
      obtain rfl : a = a' := Option.some.inj (hA.symm.trans hA')
      obtain ⟨c, _, _, ec, _⟩ := hf' 0 _ rfl
      have := hc' 0 c ec
      rw [Nat.zero_mul, show a.add 0 = a by simp [Addr.add]] at this
      exact spot_none this
    obtain ⟨b, off, rfl⟩ := hsp
    refine ⟨⟨x0, x1, xs⟩, ⟨w0, hxl, hF⟩, b, off, R, cp, hA, ⟨?_, ?_, ?_⟩, hR⟩
    · have := hcell 0 _ e0
      rw [add_lay, add_lay] at this
      exact this
    · have := hcell 1 _ e1
      rw [add_lay, add_lay] at this
      exact this
    · have := hcell 2 _ e2
      rw [add_lay, add_lay] at this
      exact this
  refine ⟨A, cap, (List.range len).map (fun i => if h : i < len then Classical.choose (hx i h) else ⟨⟨#[]⟩, 0, []⟩), by simp, by simp; omega, fun k hk => ?_, fun f hf => ?_⟩
  · have hk' : k < len := by simpa using hk
    have hs := (Classical.choose_spec (hx k hk')).2
    obtain ⟨b, off, R, cp, h1, h2, h3⟩ := hs
    refine ⟨b, off, R, cp, h1, ?_, ?_, fun q => q.elim⟩
    · simpa [hk'] using h2
    · simpa [hk'] using h3
  · obtain ⟨i, hi', rfl⟩ := List.mem_map.1 hf
    have hil : i < len := by simpa using hi'
    rw [dif_pos hil]
    exact (Classical.choose_spec (hx i hil)).1
/-- What is left of a size behind fans. -/
def szFl (left : Int) : List Fa → Int
  | [] => left
  | f :: r => if szF left f.s f.xs < 0 then -1 else szFl (szF left f.s f.xs) r
def szFS (left : Int) (fs : List Fa) : Int := if left - fs.length < 0 then -1 else szFl (left - fs.length) fs
theorem szFl_bd : ∀ (fs : List Fa) (left : Int), 0 ≤ left → 0 ≤ szFl left fs → ∀ f ∈ fs, (f.s.size : Int) ≤ left ∧ (f.xs.length : Int) ≤ left ∧ ∀ r ∈ f.xs, (r.length : Int) ≤ left
  | [], left, h0, h, f, hf => by cases hf
  | g :: r, left, h0, h, f, hf => by
    simp only [szFl] at h
    split at h
    · omega
    · rename_i hn
      have hle := szF_le (s := g.s) (xs := g.xs) h0
      rcases List.mem_cons.1 hf with rfl | hf
      · exact szF_bd h0 (by omega)
      · have := szFl_bd r _ (by omega) h f hf
        refine ⟨by omega, by omega, fun q hq => ?_⟩
        have := this.2.2 q hq
        omega
theorem szFS_bd {left : Int} {fs : List Fa} (h0 : 0 ≤ left) (h : 0 ≤ szFS left fs) : (fs.length : Int) ≤ left ∧ ∀ f ∈ fs, (f.s.size : Int) ≤ left ∧ (f.xs.length : Int) ≤ left ∧ ∀ r ∈ f.xs, (r.length : Int) ≤ left := by
  unfold szFS at h
  split at h
  · omega
  · refine ⟨by omega, fun f hf => ?_⟩
    have := szFl_bd fs _ (by omega) h f hf
    refine ⟨by omega, by omega, fun q hq => ?_⟩
    have := this.2.2 q hq
    omega
set_option maxHeartbeats 1000000 in
theorem szFanS_any (A : Option Addr) (cap : Nat) (fs : List Fa) (left : Int) (w : World) (hr : FansR False w A fs) (hf : fansFit fs) (hl : fs.length ≤ maxLen) (h0 : 0 ≤ left ∧ left ≤ 1048576) :
    Calls Try.prog 18 #[.slice A fs.length cap, .int .i64 left] w fun e w' => e = .returned (.int .i64 (szFS left fs)) ∧ Below w.heap.size w w' := by
  unfold maxLen at hl
  by_cases h : left - fs.length < 0
  · have HE := Lib.hid (show szFS left fs = -1 by unfold szFS; rw [if_pos h])
    clear hr hf
    go_enter Try.func18, Try.ntmps18
    go_wp2
    go_ret
    exact ⟨ret_int HE.out.symm, Below.refl _ _⟩
  · have HE := Lib.hid (show szFS left fs = szFl (left - fs.length) fs by unfold szFS; rw [if_neg h])
    have HR := Lib.hid hr
    have HS := Lib.hid hf
    clear hr hf
    go_enter Try.func18, Try.ntmps18
    go_wp2
    go_loopw [1, 5] (fun t i wr => ∃ (k : Nat) (x : Int), k ≤ fs.length ∧ i = .int .i64 k ∧ t = .int .i64 x ∧ 0 ≤ x ∧ x ≤ 1048576 ∧ Hid (szFl x (fs.drop k) = szFS left fs) ∧ Below w.heap.size w wr) (fun t i wr => fs.length - (intOf i).toNat)
    case atStart => exact ⟨0, _, by omega, rfl, rfl, by omega, by omega, Lib.hid (by rw [HE.out, List.drop_zero]), Below.refl _ _⟩
    case round =>
      obtain ⟨k, x, hk, rfl, rfl, hx0, hx1, HX, hbel⟩ := hrel
      obtain ⟨wo, rfl⟩ : ∃ wo : World, wo = wr := ⟨_, rfl⟩
      by_cases hlt : k < fs.length
      · obtain ⟨b, off, R, cp, rfl, ⟨c0, c1, c2⟩, hrr, -⟩ := (HR.out.below hbel) k hlt
        have HF := Lib.hid (HS.out fs[k] (List.getElem_mem hlt))
        have HZ := Lib.hid (show szFl x (fs.drop k) = if szF x fs[k].s fs[k].xs < 0 then -1 else szFl (szF x fs[k].s fs[k].xs) (fs.drop (k + 1)) by rw [List.drop_eq_getElem_cons hlt]; rfl)
        have HRR := Lib.hid hrr
        clear hrr
        generalize fs[k] = f at *
        obtain ⟨s, a, xs⟩ := f
        dsimp only at c0 c1 c2
        have hle := szF_le (s := s) (xs := xs) hx0
        have HZ2 := Lib.hid (show szFl x (fs.drop k) = if szF x s xs < 0 then -1 else szFl (szF x s xs) (fs.drop (k + 1)) from HZ.out)
        have HRS := Lib.hid (show RowsR wo R xs from HRR.out)
        have HFS := Lib.hid (show s.size ≤ maxLen ∧ xs.length ≤ maxLen ∧ rowsFit xs from HF.out)
        clear HZ HRR HF
        have HC := Lib.hid (szFan_any s a R cp xs x wo HFS.out.1 HRS.out HFS.out.2.2 HFS.out.2.1 ⟨hx0, hx1⟩)
        obtain ⟨z, hz⟩ : ∃ z, szF x s xs = z := ⟨_, rfl⟩
        have HZZ := Lib.hid hz
        rw [hz] at hle
        have HC2 := Lib.hid (show Calls Try.prog 13 #[.agg #[.string s, .int .i64 a, .slice R xs.length cp], .int .i64 x] wo fun e w' => e = .returned (.int .i64 z) ∧ Below wo.heap.size wo w' from HZZ.out ▸ HC.out)
        clear hz HC
        by_cases hn : z < 0
        · have HF := Lib.hid (show szFS left fs = -1 by rw [← HX.out, HZ2.out, HZZ.out, if_pos hn])
          have hz1 : z = -1 := by omega
          subst hz1
          go_wp2_with (go_at_call 13; (with_reducible refine (HC2.out).mono ?_); rintro e w1 ⟨rfl, hd⟩)
          go_ret
          exact ⟨ret_int HF.out.symm, hbel.trans (hd.mono hbel.size)⟩
        · have HF := Lib.hid (show szFl z (fs.drop (k + 1)) = szFS left fs by rw [← HX.out, HZ2.out, HZZ.out, if_neg hn])
          go_wp2_with (go_at_call 13; (with_reducible refine (HC2.out).mono ?_); rintro e w1 ⟨rfl, hd⟩)
          go_roundw
          case rel => exact ⟨k + 1, _, by omega, by go_num, rfl, by omega, by omega, HF, hbel.trans (hd.mono hbel.size)⟩
          case measure => simp [intOf]; omega
      · obtain rfl : k = fs.length := by omega
        have HF := Lib.hid (show x = szFS left fs by rw [← HX.out, List.drop_length]; rfl)
        go_wp2
        go_ret
        exact ⟨ret_int HF.out, hbel⟩
end Go.Proofs.Ytcnpddmghjjhjaa
