/-
  Contracts of SplitWords: the program's and the model's. Conditions: those that each theorem states.
-/
import Derived.Test.YtofpecgmnodflaaSt
import Derived.Test.YtofpecgmnodflaaSw
import Derived.Test.YtofpecgmnodflaaShF
import Derived.Maps.AppendAt
namespace Go.Proofs.Ytofpecgmnodflaa
open Go.RowKit
set_option linter.unusedVariables false
set_option linter.unusedSimpArgs false

theorem isBlank_any (W : World) (x : Nat) (hx : x ≤ 1114111) : Calls Try.prog 52 #[.int .i32 (x : Int)] W fun e w' => e = .returned (.bool (isBl x)) ∧ ∃ q, w' = W.drewN q := by
  by_cases h : x = 32
  · subst h
    go_enter Try.func52, Try.ntmps52
    go_wp2
    go_ret
    exact ⟨rfl, 0, by first | rfl | simp⟩
  · have h1 : ((x : Int) == 32) = false := by simp; omega
    have HE := Lib.hid (show isBl x = false from beq_false_of_ne h)
    have h2 : ¬ x = 32 := h
    go_enter Try.func52, Try.ntmps52
    go_wp2
    go_ret
    exact ⟨ret_bool HE.out.symm, 0, by first | rfl | simp⟩
theorem eg1 : ∀ args w, (callFunc 52 args).run Try.prog w = .ok (.enter 52 args) w := by
  exact enters_of Try.func52 (by kernel_rfl) rfl
theorem iSplitWords_any (s : ByteArray) (w : World) (hs : s.size ≤ 1048576) :
    Calls Try.prog 20 #[.string s] w fun e w' => ∃ v, e = .returned v ∧ OwnS w' w.heap.size v (wordsB s.data.toList) ∧ Below w.heap.size w w' := by
  have h := Try.strings_FieldsFunc_runes 52 #[] eg1 isBl s w (by omega) (fun W x hx _ => isBlank_any W x hx)
  rw [fields_words] at h
  have HF := Lib.hid h
  clear h
  go_enter Try.func20, Try.ntmps20
  go_wp2_with fail
  refine (HF.out).mono ?_
  rintro e w1 ⟨A, rfl, hA, ho, hb⟩
  have HO := Lib.hid (show OwnS w1 w.heap.size (.slice (some ⟨A, 0, none⟩) (wordsB s.data.toList).length (wordsB s.data.toList).length) (wordsB s.data.toList) from ho)
  have HB := Lib.hid hb
  clear ho hb
  go_wp2
  go_ret
  exact ⟨_, rfl, HO.out, HB.out⟩
/-- The words among pieces. -/
def wordsP (ps : List ByteArray) : List ByteArray := ps.filter (fun p => !p.data.toList.isEmpty)
theorem wordsP_of {ps : List ByteArray} {d : List UInt8} (h : ps.map (·.data.toList) = splitL 32 d) : wordsP ps = wordsB d := by
  unfold wordsP wordsB
  rw [← h, List.filter_map, List.map_map]
  have : ∀ p : ByteArray, (⟨p.data.toList.toArray⟩ : ByteArray) = p := fun p => rfl
  conv => lhs; rw [← List.map_id (List.filter _ ps)]
  exact List.map_congr_left fun p _ => rfl
theorem wordsP_yes {ps : List ByteArray} {k : Nat} (h : k < ps.length) (hp : ps[k].data.toList ≠ []) : wordsP (ps.take (k + 1)) = wordsP (ps.take k) ++ [ps[k]] := by
  unfold wordsP
  rw [List.take_succ_eq_append_getElem h, List.filter_append]
  congr 1
  have e : (!ps[k].data.toList.isEmpty) = true := by
    cases h : ps[k].data.toList with
    | nil => exact absurd h hp
    | cons a t => rfl
  rw [List.filter_cons, if_pos e, List.filter_nil]
theorem wordsP_no {ps : List ByteArray} {k : Nat} (h : k < ps.length) (hp : ps[k].data.toList = []) : wordsP (ps.take (k + 1)) = wordsP (ps.take k) := by
  unfold wordsP
  rw [List.take_succ_eq_append_getElem h, List.filter_append]
  have e : (!ps[k].data.toList.isEmpty) = false := by rw [hp]; rfl
  rw [List.filter_cons, if_neg (by rw [e]; simp), List.filter_nil, List.append_nil]
theorem wordsP_len (ps : List ByteArray) (k : Nat) : (wordsP (ps.take k)).length ≤ ps.length := by
  unfold wordsP
  have h1 := List.length_filter_le (fun p : ByteArray => !p.data.toList.isEmpty) (ps.take k)
  have h2 : (ps.take k).length ≤ ps.length := by rw [List.length_take]; omega
  omega
theorem own_leS {w : World} {B B' : Nat} {v : Value} {ps : List ByteArray} (h : OwnS w B v ps) (hb : B' ≤ B) : OwnS w B' v ps :=
  ⟨h.1, h.2.elim Or.inl (fun ⟨g, cap, cur, hv, hg, r⟩ => Or.inr ⟨g, cap, cur, hv, Nat.le_trans hb hg, r⟩)⟩
set_option maxHeartbeats 1000000 in
set_option maxRecDepth 100000 in
theorem sSplitWords_any (s : ByteArray) (w : World) (hs : s.size ≤ 1048576) :
    Calls Try.prog 19 #[.string s] w fun e w' => ∃ v, e = .returned v ∧ OwnS w' w.heap.size v (wordsB s.data.toList) ∧ Below w.heap.size w w' := by
  have HC := Lib.hid (fun W => l01Split_any s 32 W hs)
  obtain ⟨i0, hi, hz0, hz1, hz2⟩ := info_parts info_strN
  go_enter Try.func19, Try.ntmps19
  go_wp2_with fail
  refine (HC.out _).mono ?_
  rintro e w1 ⟨v, ps, rfl, hps, hown, hb1⟩
  have HP := Lib.hid (wordsP_of hps)
  have hlen : ps.length ≤ 1048577 := by
    have h1 := congrArg List.length hps
    have h2 := splitL_len 32 s.data.toList
    simp at h1 h2
    omega
  have HOP := Lib.hid (show OwnS w1 w.heap.size v ps from hown)
  obtain ⟨A, cap, rfl⟩ := HOP.out.form
  have HB1 := Lib.hid hb1
  clear hps hown hb1
  go_wp2_with fail
  go_loopw [4, 5] (fun out i wr => ∃ k : Nat, k ≤ ps.length ∧ i = .int .i64 k ∧ wr.ownsRow w1.heap.size 9 1 out (wordsP (ps.take k)).length (strsN (wordsP (ps.take k))) ∧ Below w1.heap.size w1 wr) (fun out i wr => ps.length - (intOf i).toNat)
  case atStart => exact ⟨0, by omega, rfl, World.ownsRow_lit _ _ 0 (Nat.le_refl _) (by simp [maxLen]) rfl, (Below.refl _ _).alloc (Nat.le_refl _) _⟩
  case round =>
    obtain ⟨k, hk, rfl, hown, hbel⟩ := hrel
    by_cases hlt : k < ps.length
    · obtain ⟨g, rfl, -, hc, -⟩ := (HOP.out.below hbel).cell hlt
      have hy := fun h => wordsP_yes hlt h
      have hno := fun h => wordsP_no hlt h
      have hll := wordsP_len ps k
      generalize ps[k] = p at *
      have HO := Lib.hid hown
      have HBL := Lib.hid hbel
      have hwr : w1.heap.size ≤ wr.heap.size := hbel.size
      clear hown hbel
      by_cases he : p.data.toList = []
      · have HN := Lib.hid (hno he)
        obtain rfl : p = ⟨#[]⟩ := bytes_inj (by rw [he])
        clear hy hno he
        go_wp2
        go_roundw
        case rel => exact ⟨k + 1, by omega, by go_num, by rw [HN.out]; exact HO.out, HBL.out⟩
        case measure => simp [intOf]; omega
      · have HN := Lib.hid (hy he)
        have hq3 : ¬ p.toList = [] := by rw [ByteArray.toList_eq]; exact he
        have hq2 : (p.toList == []) = false := beq_false_of_ne hq3
        have hq1 : (p.toList == (⟨#[]⟩ : ByteArray).toList) = false := by rw [show (⟨#[]⟩ : ByteArray).toList = [] by rw [ByteArray.toList_eq]]; exact hq2
        have hq4 : p.toList.isEmpty = false := by cases h : p.toList with
          | nil => exact absurd h hq3
          | cons a t => rfl
        clear hy hno he
        go_wp2_with (first
          | (at_builtin; refine wpList_append_own_at _ rfl _ _ 38 rfl w1.heap.size 9 i0 (.string ⟨#[]⟩) 1 16 Try.underlying38 hi hz0 hz1 hz2 rfl (by decide) _ _ _ rfl (HO.out.alloc _) ⟨wr.heap.size, 0, none⟩ 1 1 [.string p] rfl rfl ?c1z ?c2z ?c3z ?c4z ?c5z ?_))
        case c1z => intro j u hj; match j, hj with | 0, hj => (simp at hj; subst hj; simp [Addr.add]) | j + 1, hj => (simp at hj)
        case c2z => simp [Value.oneCell']
        case c3z => unfold maxLen; omega
        case c4z => omega
        case c5z => (simp; omega)
        intro v3 w3 ho3 hg3 _ hl3
        have HO3 := Lib.hid ho3
        have HB3 := Lib.hid ((HBL.out.alloc HBL.out.size _).grown hg3 (by simp; omega) (fun k hk => (HO.out.lt k hk).1))
        clear ho3 hg3 hl3
        go_wp2
        go_roundw
        case rel => exact ⟨k + 1, by omega, by go_num, by rw [HN.out, List.length_append]; unfold strsN; rw [List.map_append]; exact HO3.out, HB3.out⟩
        case measure => simp [intOf]; omega
    · obtain rfl : k = ps.length := by omega
      rw [List.take_length, HP.out] at hown
      have HO := Lib.hid (own_leS (show OwnS wr w1.heap.size _ (wordsB s.data.toList) from hown) HB1.out.size)
      have HB2 := Lib.hid (HB1.out.trans (hbel.mono HB1.out.size))
      clear hown hbel
      go_wp2
      go_ret
      exact ⟨_, rfl, HO.out, HB2.out⟩
end Go.Proofs.Ytofpecgmnodflaa
