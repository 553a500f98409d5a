/-
  Contracts of texts that are divided at a byte, chapter 1: the model's. Conditions: those that each theorem states.
-/
import Derived.Test.YtnlkikdgffaeeaaDoorNb
import Derived.Test.YtnlkikdgffaeeaaDoorNd
import Derived.Laws.OwnMore
import Derived.Deep.AppendLies
import Derived.Deep.OwnRows
import Derived.OwnWalk
import Derived.WalkSmall
namespace Go.Proofs.YtnlkikdgffaeeaaDoor
open Go.RowKit
set_option linter.unusedVariables false
set_option linter.unusedSimpArgs false

theorem info_strN : (Tryd.prog.info? 9).map (fun i => (i.zero, i.size, i.bytes)) = some (some (.string ⟨#[]⟩), 1, 16) := by kernel_rfl
def strsN (l : List ByteArray) : List Value := l.map Value.string
theorem below_dN {B : Nat} {a w : World} (h : Below B a w) (n : Nat) : Below B a (w.drewN n) := ⟨h.os, h.tape, h.output, h.size, h.block⟩
/-- What l01Split has done. -/
def SplitR (s : ByteArray) (c : UInt8) (f i : Nat) (done : List ByteArray) : Prop :=
  f ≤ i ∧ i ≤ s.size ∧ done.length ≤ f ∧ (∀ k : Nat, k < i - f → (s.data.toList.drop f)[k]? ≠ some c) ∧ done.map (·.data.toList) ++ splitL c (s.data.toList.drop f) = splitL c s.data.toList
theorem split_start (s : ByteArray) (c : UInt8) : SplitR s c 0 0 [] := ⟨Nat.le_refl _, Nat.zero_le _, Nat.le_refl _, fun k hk => absurd hk (by omega), rfl⟩
theorem split_skip {s : ByteArray} {c : UInt8} {f i : Nat} {done : List ByteArray} (h : SplitR s c f i done) (hi : i < s.size) (hne : byteAt s i ≠ (c.toNat : Int)) : SplitR s c f (i + 1) done := by
  obtain ⟨h1, h2, h3, h4, h5⟩ := h
  refine ⟨by omega, by omega, h3, fun k hk => ?_, h5⟩
  by_cases e : k < i - f
  · exact h4 k e
  · obtain rfl : k = i - f := by omega
    rw [List.getElem?_drop, show f + (i - f) = i by omega]
    intro he
    apply hne
    unfold byteAt
    rw [List.getD_eq_getElem?_getD, he]
    rfl
theorem split_hit {s : ByteArray} {c : UInt8} {f i : Nat} {done : List ByteArray} (h : SplitR s c f i done) (hi : i < s.size) (he : byteAt s i = (c.toNat : Int)) : SplitR s c (i + 1) (i + 1) (done ++ [s.extract f i]) := by
  obtain ⟨h1, h2, h3, h4, h5⟩ := h
  have hl : i < s.data.toList.length := by simpa using hi
  have hc : (s.data.toList.drop f)[i - f]? = some c := by
    rw [List.getElem?_drop, show f + (i - f) = i by omega, List.getElem?_eq_getElem hl]
    congr 1
    apply UInt8.toNat_inj.1
    unfold byteAt at he
    rw [List.getD_eq_getElem?_getD, List.getElem?_eq_getElem hl] at he
    exact Int.ofNat.inj he
  rw [splitL_hit c (i - f) _ h4 hc, List.drop_drop, show f + (i - f + 1) = i + 1 by omega] at h5
  refine ⟨Nat.le_refl _, by omega, by simp; omega, fun k hk => absurd hk (by omega), ?_⟩
  rw [List.map_append, List.append_assoc, ← h5]
  simp [Lib.extract_data]
theorem split_end {s : ByteArray} {c : UInt8} {f : Nat} {done : List ByteArray} (h : SplitR s c f s.size done) : (done ++ [s.extract f s.size]).map (·.data.toList) = splitL c s.data.toList := by
  obtain ⟨h1, h2, h3, h4, h5⟩ := h
  have hsz : s.data.toList.length = s.size := by simp
  rw [splitL_miss c (s.data.toList.drop f) (fun k => by
    by_cases hk : k < s.size - f
    · exact h4 k hk
    · rw [List.getElem?_eq_none (by rw [List.length_drop]; omega)]; simp)] at h5
  rw [← h5, List.map_append]
  simp [Lib.extract_data]
  rw [List.take_of_length_le (by rw [List.length_drop]; omega)]
set_option maxHeartbeats 1000000 in
set_option maxRecDepth 100000 in
theorem l01Split_any (s : ByteArray) (c : UInt8) (w : World) (hs : s.size ≤ 1048576) :
    Calls Tryd.prog 39 #[.string s, .int .u8 (c.toNat : Int)] w fun e w' => ∃ v ps, e = .returned v ∧ ps.map (·.data.toList) = splitL c s.data.toList ∧ w'.ownsRow w.heap.size 9 1 v ps.length (strsN ps) ∧ Below w.heap.size w w' := by
  obtain ⟨i0, hi, hz0, hz1, hz2⟩ := info_parts info_strN
  obtain ⟨cv, hcv⟩ : ∃ cv : Int, cv = (c.toNat : Int) := ⟨_, rfl⟩
  have HCV := Lib.hid hcv
  rw [← hcv]
  clear hcv
  go_enter Tryd.func39, Tryd.ntmps39
  go_wp2
  go_loopw [5, 6, 7] (fun out fr i wr => ∃ (f k : Nat) (done : List ByteArray), fr = .int .i64 f ∧ i = .int .i64 k ∧ Hid (SplitR s c f k done) ∧ (f ≤ k ∧ k ≤ s.size ∧ done.length ≤ f) ∧ wr.ownsRow w.heap.size 9 1 out done.length (strsN done) ∧ Below w.heap.size w wr) (fun out fr i wr => s.size - (intOf i).toNat)
  case atStart => exact ⟨0, 0, [], rfl, rfl, Lib.hid (split_start s c), ⟨by omega, by omega, by simp⟩, World.ownsRow_lit _ _ 0 (Nat.le_refl _) (by simp [maxLen]) rfl, (Below.refl _ _).alloc (Nat.le_refl _) _⟩
  case round =>
    obtain ⟨f, k, done, rfl, rfl, HR, ⟨hfk, hks, hdf⟩, hown, hbel⟩ := hrel
    have hwsz := hbel.size
    by_cases hlt : k < s.size
    · have hbk := byteAt_eq hlt
      by_cases he : byteAt s k = cv
      · have HN := Lib.hid (split_hit HR.out hlt (he.trans HCV.out))
        have t1 : (byteAt s k == cv) = true := by rw [he]; exact beq_self_eq_true _
        clear he
        have hdl : (done.length : Int) ≤ 1048576 := by omega
        go_wp2_with (at_builtin; refine wpList_append_own _ rfl _ _ 48 rfl w.heap.size 9 i0 (.string ⟨#[]⟩) 1 16 Tryd.underlying48 hi hz0 hz1 hz2 rfl (by decide) _ _ _ rfl (hown.alloc _) ⟨wr.heap.size, 0, none⟩ 1 1 [.string (s.extract f k)] rfl rfl ?c1z ?c2z ?c3z ?c4z ?c5z ?_)
        case c1z => intro j u hj; match j, hj with | 0, hj => (simp at hj; subst hj; simp [Addr.add]) | j + 1, hj => (simp at hj)
        case c2z => simp [Value.oneCell']
        case c3z => unfold maxLen; omega
        case c4z => omega
        case c5z => (simp; omega)
        intro v' w1 hown' hgrow _
        have HB : Hid (Below w.heap.size w w1) := Lib.hid ((hbel.alloc hwsz _).grown hgrow (by simp; omega) (fun k hk => (hown.lt k hk).1))
        have HO : Hid (w1.ownsRow w.heap.size 9 1 v' (done ++ [s.extract f k]).length (strsN (done ++ [s.extract f k]))) := Lib.hid (by simpa [strsN] using hown')
        clear hown' hgrow hown hbel
        go_wp2
        go_roundw
        case rel => exact ⟨k + 1, k + 1, _, by go_num, by go_num, HN, ⟨by omega, by omega, by simp; omega⟩, HO.out, HB.out⟩
        case measure => simp [intOf]; omega
      · have HN := Lib.hid (split_skip HR.out hlt (fun e => he (e.trans HCV.out.symm)))
        have t1 : (byteAt s k == cv) = false := beq_false_of_ne he
        clear he
        go_wp2
        go_roundw
        case rel => exact ⟨f, k + 1, done, rfl, by go_num, HN, ⟨by omega, by omega, hdf⟩, hown, hbel⟩
        case measure => simp [intOf]; omega
    · obtain rfl : k = s.size := by omega
      have HE := Lib.hid (split_end HR.out)
      have hdl : (done.length : Int) ≤ 1048576 := by omega
      go_wp2_with (at_builtin; refine wpList_append_own _ rfl _ _ 48 rfl w.heap.size 9 i0 (.string ⟨#[]⟩) 1 16 Tryd.underlying48 hi hz0 hz1 hz2 rfl (by decide) _ _ _ rfl (hown.alloc _) ⟨wr.heap.size, 0, none⟩ 1 1 [.string (s.extract f s.size)] rfl rfl ?c1y ?c2y ?c3y ?c4y ?c5y ?_)
      case c1y => intro j u hj; match j, hj with | 0, hj => (simp at hj; subst hj; simp [Addr.add]) | j + 1, hj => (simp at hj)
      case c2y => simp [Value.oneCell']
      case c3y => unfold maxLen; omega
      case c4y => omega
      case c5y => (simp; omega)
      intro v' w1 hown' hgrow _
      have HB : Hid (Below w.heap.size w w1) := Lib.hid ((hbel.alloc hwsz _).grown hgrow (by simp; omega) (fun k hk => (hown.lt k hk).1))
      have HO : Hid (w1.ownsRow w.heap.size 9 1 v' (done ++ [s.extract f s.size]).length (strsN (done ++ [s.extract f s.size]))) := Lib.hid (by simpa [strsN] using hown')
      clear hown' hgrow hown hbel
      go_wp2
      go_ret
      exact ⟨v', _, rfl, HE.out, HO.out, HB.out⟩
end Go.Proofs.YtnlkikdgffaeeaaDoor
