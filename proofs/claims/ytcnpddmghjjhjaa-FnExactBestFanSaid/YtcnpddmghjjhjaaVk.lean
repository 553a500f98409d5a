/-
  Copies and comparisons of slices of fans: the laws'. Conditions: those that each theorem states.
-/
import Derived.Test.YtcnpddmghjjhjaaVj
namespace Go.Proofs.Ytcnpddmghjjhjaa
open Go.RowKit
set_option linter.unusedVariables false
set_option linter.unusedSimpArgs false

/-- n fans that are not yet laid. -/
def fan0 : Nat → List Value
  | 0 => []
  | n + 1 => [.string ⟨#[]⟩, .int .i64 0, .slice none 0 0] ++ fan0 n
theorem fan0_len : ∀ n, (fan0 n).length = n * 3
  | 0 => rfl
  | n + 1 => by
    show ([_, _, _] ++ fan0 n).length = _
    rw [List.length_append, fan0_len n]; simp; omega
theorem fan0_put (cs : List Value) (n : Nat) (a b c : Value) : (((cs ++ fan0 (n + 1)).set cs.length a).set (cs.length + 1) b).set (cs.length + 2) c = (cs ++ [a, b, c]) ++ fan0 n := by
  show (((cs ++ (_ :: _ :: _ :: fan0 n)).set cs.length a).set (cs.length + 1) b).set (cs.length + 2) c = _
  rw [List.set_append_right _ _ (Nat.le_refl _), Nat.sub_self, List.set_append_right _ _ (by omega), List.set_append_right _ _ (by omega), show cs.length + 1 - cs.length = 1 by omega, show cs.length + 2 - cs.length = 2 by omega]
  simp
theorem fan0_made (n : Nat) : (madeCells #[.string ⟨#[]⟩, .int .i64 0, .slice none 0 0] (n * 3)).toList = fan0 n := by
  induction n with
  | zero => simp [madeCells, fan0]
  | succ n ih =>
    apply List.ext_getElem?
    intro i
    have hc : ∀ m j, (madeCells #[.string ⟨#[]⟩, .int .i64 0, .slice none 0 0] m).toList[j]? = if j < m then ([.string ⟨#[]⟩, .int .i64 0, .slice none 0 0] : List Value)[j % 3]? else none := by
      intro m j
      by_cases hj : j < m
      · rw [if_pos hj]
        simp [madeCells, hj]
        have h3 : j % 3 < 3 := Nat.mod_lt _ (by omega)
        rw [List.getElem?_eq_getElem (by simpa using h3)]
        simp
      · rw [if_neg hj]
        exact List.getElem?_eq_none (by simp [madeCells]; omega)
    show _ = ([_, _, _] ++ fan0 n)[i]?
    rw [hc, ← ih]
    by_cases h1 : i < 3
    · rw [if_pos (by omega), List.getElem?_append_left (by simpa using h1), Nat.mod_eq_of_lt h1]
    · rw [List.getElem?_append_right (by simp; omega), hc]
      simp only [List.length_cons, List.length_nil]
      rw [show i % 3 = (i - (0 + 1 + 1 + 1)) % 3 by omega]
      by_cases h2 : i < (n + 1) * 3
      · rw [if_pos h2, if_pos (by omega)]
      · rw [if_neg h2, if_neg (by omega)]
theorem run_make_fl {P : Program} {t e : TypeId} {i : TypeInfo} {z : Value} (ht : P.underlying t = some (.slice e)) (hi : P.info? e = some i) (hz : i.zero = some z)
    (kl kc : IntKind) (n : Nat) (hbytes : i.bytes * n ≤ 281474976710656) (h63 : n ≤ 9223372036854775807) (w : World) :
    (Instr.makeSlice t (.int kl (n : Int)) (.int kc (n : Int))).run P w = .ok (.slice (some ⟨w.heap.size, 0, none⟩) n n) (w.alloc (.cells (madeCells z.cells (n * i.size)) e)) := by
  have hb : (i.bytes : Int) * (n : Int) ≤ 281474976710656 := by
    have h : ((i.bytes * n : Nat) : Int) ≤ 281474976710656 := by omega
    rwa [Int.natCast_mul] at h
  have hr := run_make (P := P) w t e i z ht hi hz kl kc (n : Int) (n : Int) (by omega) (by omega) hb (by omega)
  simpa using hr
theorem info_fan : (Try.prog.info? 27).map (fun i => (i.zero, i.size, i.bytes)) = some (some (.agg #[.string ⟨#[]⟩, .int .i64 0, .slice none 0 0]), 3, 48) := by kernel_rfl
theorem BlkV.set3 {w : World} {g : Nat} {t : TypeId} {cs : List Value} (h : BlkV w g t cs) (o : Nat) (a b c : Value) :
    BlkV (((w.setCell ⟨g, o, none⟩ a).setCell ⟨g, o + 1, none⟩ b).setCell ⟨g, o + 2, none⟩ c) g t (((cs.set o a).set (o + 1) b).set (o + 2) c) := ((h.setC o a).setC (o + 1) b).setC (o + 2) c
set_option maxHeartbeats 1000000 in
set_option maxRecDepth 100000 in
theorem toFanS_any (A : Option Addr) (cap : Nat) (fs : List Fa) (w : World) (hr : FansR False w A fs) (hl : fs.length ≤ 1048576) (hs : ∀ f ∈ fs, f.sm) :
    Calls Try.prog 20 #[.slice A fs.length cap] w fun e w' => ∃ g, e = .returned (.slice (some ⟨g, 0, none⟩) fs.length fs.length) ∧ FansR True w' (some ⟨g, 0, none⟩) fs ∧ w.heap.size ≤ g ∧ Below w.heap.size w w' := by
  obtain ⟨i0, hi, hz0, hz1, hz2⟩ := info_parts info_fan
  have hmk := fun W => run_make_fl (P := Try.prog) Try.underlying34 hi hz0 .i64 .i64 fs.length (by rw [hz2]; omega) (by omega) W
  rw [hz1] at hmk
  have HR := Lib.hid hr
  have HS := Lib.hid hs
  clear hr hs
  have HI := Lib.hid (show (Try.prog.info? 27).map (·.size) = some 3 by rw [hi]; simp [hz1])
  clear hi hz0 hz1 hz2
  go_enter Try.func20, Try.ntmps20
  go_wp2
  clear hmk
  go_loopw [4] (fun i wr => ∃ (k : Nat) (cs : List Value), k ≤ fs.length ∧ i = .int .i64 k ∧ cs.length = k * 3 ∧ BlkV wr w.heap.size 27 (cs ++ fan0 (fs.length - k)) ∧ Hid (∀ j (hj : j < fs.length), j < k → ∃ g, (cs[j * 3]? = some (.string fs[j].s) ∧ cs[j * 3 + 1]? = some (.int .i64 fs[j].a) ∧ cs[j * 3 + 2]? = some (.slice (some ⟨g, 0, none⟩) fs[j].xs.length fs[j].xs.length)) ∧ OwnSS wr (w.heap.size + 1) (.slice (some ⟨g, 0, none⟩) fs[j].xs.length fs[j].xs.length) fs[j].xs) ∧ Below w.heap.size w wr) (fun i wr => fs.length - (intOf i).toNat)
  case atStart =>
    refine ⟨0, [], by omega, rfl, rfl, ?_, Lib.hid (fun j _ hj => absurd hj (by omega)), (Below.refl _ _).alloc (Nat.le_refl _) _⟩
    unfold BlkV
    rw [List.nil_append, Nat.sub_zero, ← fan0_made, Array.toArray_toList]
    exact heap_alloc_new w _
  case round =>
    obtain ⟨k, cs, hk, rfl, hcl, hblk, HG, hbel⟩ := hrel
    obtain ⟨wo, rfl⟩ : ∃ wo : World, wo = wr := ⟨_, rfl⟩
    by_cases hlt : k < fs.length
    · obtain ⟨b, off, R, cp, rfl, ⟨c0, c1, c2⟩, hrr, -⟩ := (HR.out.below hbel) k hlt
      have HF := Lib.hid (HS.out fs[k] (List.getElem_mem hlt))
      have HRR := Lib.hid hrr
      have HB := Lib.hid hblk
      have hlt0 := hblk.lt
      have HP := Lib.hid (show cs ++ fan0 (fs.length - k) = cs ++ fan0 ((fs.length - (k + 1)) + 1) by rw [show fs.length - k = (fs.length - (k + 1)) + 1 by omega])
      clear hrr hblk
      obtain ⟨f, hf⟩ : ∃ f, fs[k] = f := ⟨_, rfl⟩
      rw [hf] at c0 c1 c2 HRR HF
      have HFK := Lib.hid hf
      clear hf
      obtain ⟨s, a, xs⟩ := f
      dsimp only at c0 c1 c2
      have HRS := Lib.hid (show RowsR wo R xs from HRR.out)
      have HSM := Lib.hid (show s.size ≤ 1048576 ∧ xs.length ≤ 1048576 ∧ ∀ r ∈ xs, r.length ≤ 1048576 from HF.out)
      clear HRR HF
      go_wp2_with fail
      refine (toFan_own s a R cp xs wo HRS.out HSM.out.2.1 HSM.out.2.2).mono ?_
      rintro e w1 ⟨g, rfl, hO, hd⟩
      have HO := Lib.hid (show OwnSS w1 (w.heap.size + 1) (.slice (some ⟨g, 0, none⟩) xs.length xs.length) xs from hO.mono (by omega))
      have hb1 := hbel.trans (hd.mono hbel.size)
      have HB1 := Lib.hid (show BlkV w1 w.heap.size 27 (cs ++ fan0 ((fs.length - (k + 1)) + 1)) from HP.out ▸ (HB.out.below hd hlt0))
      have HG1 := Lib.hid (show ∀ j (hj : j < fs.length), j < k → ∃ g, (cs[j * 3]? = some (.string fs[j].s) ∧ cs[j * 3 + 1]? = some (.int .i64 fs[j].a) ∧ cs[j * 3 + 2]? = some (.slice (some ⟨g, 0, none⟩) fs[j].xs.length fs[j].xs.length)) ∧ OwnSS w1 (w.heap.size + 1) (.slice (some ⟨g, 0, none⟩) fs[j].xs.length fs[j].xs.length) fs[j].xs from fun j hj hjk => by
        obtain ⟨g, h1, h2⟩ := HG.out j hj hjk
        exact ⟨g, h1, h2.below hd⟩)
      have d0 : w1.cell? ⟨w.heap.size, k * 3, none⟩ = some (.string ⟨#[]⟩) := by rw [HB1.out.cell, List.getElem?_append_right (by omega), hcl, Nat.sub_self]; rfl
      have d1 : w1.cell? ⟨w.heap.size, k * 3 + 1, none⟩ = some (.int .i64 0) := by rw [HB1.out.cell, List.getElem?_append_right (by omega), hcl, show k * 3 + 1 - k * 3 = 1 by omega]; rfl
      have d2 : w1.cell? ⟨w.heap.size, k * 3 + 2, none⟩ = some (.slice none 0 0) := by rw [HB1.out.cell, List.getElem?_append_right (by omega), hcl, show k * 3 + 2 - k * 3 = 2 by omega]; rfl
      have z0 := HB1.out.frozen (k * 3)
      have z1 := HB1.out.frozen (k * 3 + 1)
      have z2 := HB1.out.frozen (k * 3 + 2)
      clear hO hd HB HG HP
      go_wp2
      go_roundw
      case rel =>
        refine ⟨k + 1, cs ++ [.string s, .int .i64 a, .slice (some ⟨g, 0, none⟩) xs.length xs.length], by omega, by go_num, by simp [hcl]; omega, ?_, Lib.hid (fun j hj hjk => ?_), ?_⟩
        · rw [← fan0_put, hcl]
          exact HB1.out.set3 (k * 3) _ _ _
        · rcases Nat.lt_or_ge j k with q | q
          · obtain ⟨g', ⟨h1, h2, h3⟩, h4⟩ := HG1.out j hj q
            refine ⟨g', ⟨by rw [List.getElem?_append_left (by omega)]; exact h1, by rw [List.getElem?_append_left (by omega)]; exact h2, by rw [List.getElem?_append_left (by omega)]; exact h3⟩, ?_⟩
            exact ((h4.setLow (p := ⟨w.heap.size, k * 3, none⟩) (by show w.heap.size < _; omega) _).setLow (p := ⟨w.heap.size, k * 3 + 1, none⟩) (by show w.heap.size < _; omega) _).setLow (p := ⟨w.heap.size, k * 3 + 2, none⟩) (by show w.heap.size < _; omega) _
          · obtain rfl : j = k := by omega
            rw [HFK.out]
            refine ⟨g, ⟨by rw [List.getElem?_append_right (by omega), hcl, Nat.sub_self]; rfl, by rw [List.getElem?_append_right (by omega), hcl, show j * 3 + 1 - j * 3 = 1 by omega]; rfl, by rw [List.getElem?_append_right (by omega), hcl, show j * 3 + 2 - j * 3 = 2 by omega]; rfl⟩, ?_⟩
            exact ((HO.out.setLow (p := ⟨w.heap.size, j * 3, none⟩) (by show w.heap.size < _; omega) _).setLow (p := ⟨w.heap.size, j * 3 + 1, none⟩) (by show w.heap.size < _; omega) _).setLow (p := ⟨w.heap.size, j * 3 + 2, none⟩) (by show w.heap.size < _; omega) _
        · exact ((hb1.setCell (p := ⟨w.heap.size, k * 3, none⟩) (Nat.le_refl _) _).setCell (p := ⟨w.heap.size, k * 3 + 1, none⟩) (Nat.le_refl _) _).setCell (p := ⟨w.heap.size, k * 3 + 2, none⟩) (Nat.le_refl _) _
      case measure => simp [intOf]; omega
    · obtain rfl : k = fs.length := by omega
      have HB := Lib.hid hblk
      clear hblk
      go_wp2
      go_ret
      refine ⟨_, rfl, fun j hj => ?_, Nat.le_refl _, hbel⟩
      obtain ⟨g, ⟨h1, h2, h3⟩, h4⟩ := HG.out j hj hj
      have hb := HB.out
      rw [Nat.sub_self, show fan0 0 = [] from rfl, List.append_nil] at hb
      exact ⟨_, 0, some ⟨g, 0, none⟩, _, rfl, ⟨by rw [Nat.zero_add, hb.cell]; exact h1, by rw [Nat.zero_add, hb.cell]; exact h2, by rw [Nat.zero_add, hb.cell]; exact h3⟩, h4.rows, fun _ => rfl⟩
set_option maxHeartbeats 1000000 in
theorem eqFanS_same (t1 t2 : Prop) (A A' : Option Addr) (cap cap' : Nat) (fs : List Fa) (w : World) (hr : FansR t1 w A fs) (hr' : FansR t2 w A' fs) (hl : fs.length ≤ 1048576) (hs : ∀ f ∈ fs, f.sm) :
    Calls Try.prog 22 #[.slice A fs.length cap, .slice A' fs.length cap'] w fun e w' => e = .returned (.bool true) ∧ Below w.heap.size w w' := by
  have HR := Lib.hid (And.intro hr hr')
  have HS := Lib.hid hs
  clear hr hr' hs
  go_enter Try.func22, Try.ntmps22
  go_wp2
  go_loopw [5] (fun i wr => ∃ k : Nat, k ≤ fs.length ∧ i = .int .i64 k ∧ Below w.heap.size w wr) (fun i wr => fs.length - (intOf i).toNat)
  case atStart => exact ⟨0, by omega, rfl, Below.refl _ _⟩
  case round =>
    obtain ⟨k, hk, rfl, hbel⟩ := hrel
    obtain ⟨wo, rfl⟩ : ∃ wo : World, wo = wr := ⟨_, rfl⟩
    by_cases hlt : k < fs.length
    · obtain ⟨b, off, R, cp, rfl, ⟨c0, c1, c2⟩, hrr, -⟩ := (HR.out.1.below hbel) k hlt
      obtain ⟨b', off', R', cp', rfl, ⟨d0, d1, d2⟩, hrr', -⟩ := (HR.out.2.below hbel) k hlt
      have HF := Lib.hid (HS.out fs[k] (List.getElem_mem hlt))
      have HRR := Lib.hid (And.intro hrr hrr')
      clear hrr hrr'
      generalize fs[k] = f at *
      obtain ⟨s, a, xs⟩ := f
      dsimp only at c0 c1 c2 d0 d1 d2
      have HRS := Lib.hid (show RowsR wo R xs ∧ RowsR wo R' xs from HRR.out)
      have HSM := Lib.hid (show s.size ≤ 1048576 ∧ xs.length ≤ 1048576 ∧ ∀ r ∈ xs, r.length ≤ 1048576 from HF.out)
      clear HRR HF
      go_wp2_with fail
      refine wp_region_held (S := fun w' => w'.cell? ⟨b, off + k * 3, none⟩ = some (.string s) ∧ w'.cell? ⟨b, off + k * 3 + 1, none⟩ = some (.int .i64 a) ∧ w'.cell? ⟨b, off + k * 3 + 2, none⟩ = some (.slice R xs.length cp) ∧ w'.cell? ⟨b', off' + k * 3, none⟩ = some (.string s) ∧ w'.cell? ⟨b', off' + k * 3 + 1, none⟩ = some (.int .i64 a) ∧ w'.cell? ⟨b', off' + k * 3 + 2, none⟩ = some (.slice R' xs.length cp') ∧ Below wo.heap.size wo w') (by kernel_rfl) ?_
      try (change wpAnyH _ _ _ _ _ _ _ _ (World.drew _))
      have hS0 := (show wo.drew.cell? ⟨b, off + k * 3, none⟩ = some (.string s) ∧ wo.drew.cell? ⟨b, off + k * 3 + 1, none⟩ = some (.int .i64 a) ∧ wo.drew.cell? ⟨b, off + k * 3 + 2, none⟩ = some (.slice R xs.length cp) ∧ wo.drew.cell? ⟨b', off' + k * 3, none⟩ = some (.string s) ∧ wo.drew.cell? ⟨b', off' + k * 3 + 1, none⟩ = some (.int .i64 a) ∧ wo.drew.cell? ⟨b', off' + k * 3 + 2, none⟩ = some (.slice R' xs.length cp') ∧ Below wo.heap.size wo wo.drew from ⟨c0, c1, c2, d0, d1, d2, Below.drew (Below.refl _ _)⟩)
      refine gTake 0 (v := ?_) rfl (by kernel_rfl) (by kernel_rfl) (by kernel_rfl) (fun _ _ _ h => h) (by kernel_rfl) ?_ hS0 ?_
      rotate_left
      · (intro W hW; clear hW; go_simp; try with_reducible rfl)
      refine gTake 1 (v := ?_) rfl (by kernel_rfl) (by kernel_rfl) (by kernel_rfl) (fun _ _ _ h => h) (by kernel_rfl) ?_ hS0 ?_
      rotate_left
      · (intro W hW; clear hW; go_simp; try with_reducible rfl)
      refine gTake 2 (v := ?_) rfl (by kernel_rfl) (by kernel_rfl) (by kernel_rfl) (fun _ _ _ h => h) (by kernel_rfl) ?_ hS0 ?_
      rotate_left
      · (intro W hW; clear hW; go_simp; try with_reducible rfl)
      refine gTake 3 (v := ?_) rfl (by kernel_rfl) (by kernel_rfl) (by kernel_rfl) (fun _ _ _ h => h) (by kernel_rfl) ?_ hS0 ?_
      rotate_left
      · (intro W hW; have q0 := hW.1; have q1 := hW.2.1; have q2 := hW.2.2.1; have q3 := hW.2.2.2.1; have q4 := hW.2.2.2.2.1; have q5 := hW.2.2.2.2.2.1; clear hW; go_simp; try with_reducible rfl)
      refine gTake 4 (v := ?_) rfl (by kernel_rfl) (by kernel_rfl) (by kernel_rfl) (fun _ _ _ h => h) (by kernel_rfl) ?_ hS0 ?_
      rotate_left
      · (intro W hW; clear hW; go_simp; try with_reducible rfl)
      refine gTake 5 (v := ?_) rfl (by kernel_rfl) (by kernel_rfl) (by kernel_rfl) (fun _ _ _ h => h) (by kernel_rfl) ?_ hS0 ?_
      rotate_left
      · (intro W hW; clear hW; go_simp; try with_reducible rfl)
      refine gTake 6 (v := ?_) rfl (by kernel_rfl) (by kernel_rfl) (by kernel_rfl) (fun _ _ _ h => h) (by kernel_rfl) ?_ hS0 ?_
      rotate_left
      · (intro W hW; clear hW; go_simp; try with_reducible rfl)
      refine gTake 7 (v := ?_) rfl (by kernel_rfl) (by kernel_rfl) (by kernel_rfl) (fun _ _ _ h => h) (by kernel_rfl) ?_ hS0 ?_
      rotate_left
      · (intro W hW; have q0 := hW.1; have q1 := hW.2.1; have q2 := hW.2.2.1; have q3 := hW.2.2.2.1; have q4 := hW.2.2.2.2.1; have q5 := hW.2.2.2.2.2.1; clear hW; go_simp; try with_reducible rfl)
      refine gOne 8 rfl (by kernel_rfl) (by kernel_rfl) (fun K hK => ?_)
      go_simp
      go_at_call 17
      (with_reducible refine (eqFan_same s a R R' cp cp' xs _ (HRS.out.1.below hS0.2.2.2.2.2.2) (HRS.out.2.below hS0.2.2.2.2.2.2) HSM.out.2.1 HSM.out.2.2).mono ?_)
      rintro e wq0 ⟨rfl, hdq0⟩
      try go_simp
      have hS1 := (show wq0.cell? ⟨b, off + k * 3, none⟩ = some (.string s) ∧ wq0.cell? ⟨b, off + k * 3 + 1, none⟩ = some (.int .i64 a) ∧ wq0.cell? ⟨b, off + k * 3 + 2, none⟩ = some (.slice R xs.length cp) ∧ wq0.cell? ⟨b', off' + k * 3, none⟩ = some (.string s) ∧ wq0.cell? ⟨b', off' + k * 3 + 1, none⟩ = some (.int .i64 a) ∧ wq0.cell? ⟨b', off' + k * 3 + 2, none⟩ = some (.slice R' xs.length cp') ∧ Below wo.heap.size wo wq0 from ⟨cellK hS0.1 hdq0, cellK hS0.2.1 hdq0, cellK hS0.2.2.1 hdq0, cellK hS0.2.2.2.1 hdq0, cellK hS0.2.2.2.2.1 hdq0, cellK hS0.2.2.2.2.2.1 hdq0, hS0.2.2.2.2.2.2.trans (hdq0.mono hS0.2.2.2.2.2.2.size)⟩)
      refine hK _ _ hS1 ?_
      clear hK K
      refine gTake 9 (v := ?_) rfl (by kernel_rfl) (by kernel_rfl) (by kernel_rfl) (fun _ _ _ h => h) (by kernel_rfl) ?_ hS1 ?_
      rotate_left
      · (intro W hW; clear hW; go_simp; try with_reducible rfl)
      refine wpAnyH_done (by kernel_rfl) ?_ _
      go_simp
      go_wp2
      go_roundw
      case rel => exact ⟨k + 1, by omega, by go_num, hbel.trans (hS1.2.2.2.2.2.2.mono hbel.size)⟩
      case measure => simp [intOf]; omega
    · go_wp2
      go_ret
      exact ⟨rfl, hbel⟩
end Go.Proofs.Ytcnpddmghjjhjaa
