/-
  The search of moves, the program's: the walk. Conditions: those that each theorem states. Conditions: those that each theorem states.
-/
import Derived.Test.YthbofhlfggkolaaKm
import Derived.Test.YthbofhlfggkolaaZq
namespace Go.Proofs.Ythbofhlfggkolaa
open Go.RowKit
set_option linter.unusedVariables false
set_option linter.unusedSimpArgs false

open Go.Conc
def muR (c : Nat) (W : World) : Nat := 300 - (match W.heap[c]? with | some (.chan _ _ _ _ r _) => r | _ => 0)
theorem muR_at {c cap s r : Nat} {buf : Array Value} {cl tm : Bool} {W : World} (h : W.heap[c]? = some (.chan cap buf cl s r tm)) : muR c W = 300 - r := by unfold muR; rw [h]
theorem own_belG {W W' : World} {B n : Nat} {T : TypeId} {u : Value} {l : List Value} (h : W.ownsRow B T 1 u n l) (hb : Below W.heap.size W W') : W'.ownsRow B T 1 u n l := World.ownsRow.kept h (grown_none hb) (by cases u.ownBlock <;> simp)
def muD (n : Nat) (a : Act) : Nat := n - (intOf (a.tmps.getD 27 undef)).toNat
theorem step_label' {P : Program} {b : Frame} {a : Act} {k : List Item} {cs : List Frame} {w : World} {l : Nat} : step P (lone (b.at a (.code (.label l) :: k)) cs w) = .next (lone (b.at a k) cs w) :=
  step_lone_go (by simp [stepG, stepG.exec, Frame.at])
theorem wpN_label {P : Program} {Q : Exit → Act → World → Prop} {a : Act} {w : World} {l : Nat} (h : Q .normal a w) : wpN P (Code.label l) Q a w := fun b k cs hb => ⟨.normal, a, w, h, .one step_label'⟩
theorem run_ch (w : World) : (Instr.makeChan 120 (.int .i64 256)).run Try.prog w = .ok (.chan (some w.heap.size)) (w.alloc (.chan 256 #[] false 0 0 false)) := by
  obtain ⟨i, hi, hz0, hz1, hz2⟩ := info_parts info_ds
  simpa using run_makeChan (P := Try.prog) (w := w) Try.underlying120 hi .i64 256 (by omega) (by rw [hz2]; omega)
set_option maxHeartbeats 4000000 in
set_option maxRecDepth 100000 in
theorem moves_any (B n : Nat) (v : Value) (ms : List Nat) (ok : Nat → Bool) (s0 t0 : Nat) (w : World) (hn : n ≤ 8) (hown : w.ownsRow B 97 1 v ms.length (msV ms)) (hs : s0 < 2 ^ n) (ht : t0 < 2 ^ n) (hq : ∀ q ∈ ms, q < 256) (hl : ms.length ≤ 1000) (hok : ∀ s, s < 256 → keepM s ms = ok s) (hp : ∃ p, Pth n ok mvx s0 p t0) :
    Calls Try.prog 71 #[.agg #[.int .i64 (n : Int), v], .int .u8 (s0 : Int), .int .u8 (t0 : Int)] w fun e w' => ∃ u l, e = .returned u ∧ OwnI w' w.heap.size u (lsV l) ∧ First n ok s0 t0 l ∧ Below w.heap.size w w' := by
  have h28 : 2 ^ n ≤ 256 := Nat.pow_le_pow_right (by omega) hn
  have below_box' : ∀ (w : World) (o : Obj), Below w.heap.size w (w.alloc o) := fun w o => (Below.refl _ _).alloc (Nat.le_refl _) o
  have hmm := @run_makeMap Try.prog
  have hch := run_ch
  have hs8 : s0 < 256 := by omega
  have ht8 : t0 < 256 := by omega
  have hg0 : Below w.heap.size w ((w.alloc (.cells #[.int .i64 (n : Int), v] 94)).alloc (.map #[] 0)) := (below_box w _).alloc (by simp) _
  have hm0 : OwnM ((w.alloc (.cells #[.int .i64 (n : Int), v] 94)).alloc (.map #[] 0)) (w.heap.size + 1) 0 (.map []) := by
    have h := World.ownsMap_made (H := Value) (w.alloc (.cells #[.int .i64 (n : Int), v] 94)) Try.prog 97 rawE
    rwa [show (w.alloc (.cells #[.int .i64 (n : Int), v] 94)).heap.size = w.heap.size + 1 by simp] at h
  obtain ⟨w1, hins, hm1, htu⟩ := World.ownsMap.store hm0 (Maps.int_keyed Try.underlying97) Try.underlying119 (by unfold maxLen; omega) (val := .slice none 0 0) (d := .held (.slice none 0 0)) (ps := []) (keyG hs8) rfl
  have hsz1 : w1.heap.size = w.heap.size + 2 := by
    obtain ⟨es, cl, es', cl', -, rfl⟩ := htu
    simp [ChangeMaps.setBlock]
  have hgr1 := htu.grown
  have I0 := Lib.hid (show MvI w ((w1.alloc (.chan 256 #[] false 0 0 false)).setChan (w.heap.size + 2) 256 ((#[] : Array Value).push (.int .u8 (s0 : Int))) false 1 0 false) n v [(s0, [])] 0 ((DataW.map []).put (.int .u8 (s0 : Int)) (.held (.slice none 0 0))) 1 (putG (fun _ => none) s0 (.slice none 0 0)) from by
    have hg2 : w1.grownBy (w1.alloc (.chan 256 #[] false 0 0 false)) none := World.grownBy_alloc _ _ _
    have hg3 := grown_chan (w1.alloc (.chan 256 #[] false 0 0 false)) (c := w.heap.size + 2) 256 ((#[] : Array Value).push (.int .u8 (s0 : Int))) false 1 0 false
    have hsz2 : (w1.alloc (.chan 256 #[] false 0 0 false)).heap.size = w.heap.size + 3 := by simp [hsz1]
    exact {
      bel := below_grown1 ((below_grown1 hg0 hgr1 (by simp; omega) (by omega)).alloc (by omega) _) hg3 (by omega) (by omega)
      siz := by rw [size_setChan]; omega
      x0 := grown_cell hg3 ((cellK (grown_cell hgr1 (show ((w.alloc (.cells #[.int .i64 (n : Int), v] 94)).alloc (.map #[] 0)).cell? ⟨w.heap.size, 0, none⟩ = some (.int .i64 (n : Int)) by simp) (by show w.heap.size ≠ w.heap.size + 1; omega)) (below_box' w1 _))) (by show w.heap.size ≠ w.heap.size + 2; omega)
      x1 := grown_cell hg3 ((cellK (grown_cell hgr1 (show ((w.alloc (.cells #[.int .i64 (n : Int), v] 94)).alloc (.map #[] 0)).cell? ⟨w.heap.size, 1, none⟩ = some v by simp) (by show w.heap.size ≠ w.heap.size + 1; omega)) (below_box' w1 _))) (by show w.heap.size ≠ w.heap.size + 2; omega)
      ch := by rw [heap_setChan _ _ _ _ _ _ _ _ (by omega)]; simp [qV]
      le := by simp
      own := World.ownsMap.kept (World.ownsMap.kept hm1 hg2 (by simp)) hg3 (by simp)
      mg := MapG.empty.put s0 _
      dom := fun s => by
        unfold putG
        by_cases e : s = s0
        · subst e; simp
        · simp [e]
      len := fun x hx => by
        obtain rfl := List.mem_singleton.1 hx
        simp
      row := fun x hx => by
        obtain rfl := List.mem_singleton.1 hx
        exact ⟨.slice none 0 0, by simp [putG], World.ownsRow_nil _ _ _ _⟩ })
  have hc0 : (w1.alloc (.chan 256 #[] false 0 0 false)).heap[w.heap.size + 2]? = some (.chan 256 #[] false 0 0 false) := by rw [← hsz1]; exact (MapKept.heap_alloc w1 _).1
  have B0 := Lib.hid (show Bfs n ok mvx s0 [(s0, [])] 0 0 from Bfs.start s0)
  refine calls_of_wpN Try.func71 rfl (fun w h => by obtain ⟨u, l, h, -⟩ := h; cases h) ?_
  simp only [Try.ntmps71]
  refine wpN_seq_k (fun K hK => wpN_of ?_)
  go_wp2
  refine wpN_scope ?_
  simp only [Array.replicate_succ, Array.replicate_zero, List.push_toArray, List.append_toArray, List.nil_append, List.cons_append, List.setIfInBounds_toArray, List.set_cons_succ, List.set_cons_zero, Nat.reduceSub, Nat.reduceAdd]
  refine wpN_seq_k ?_
  intro K hK
  refine wpN_of ?_
  go_wp2
  refine wpN_seq_k ?_
  intro K hK
  refine wpN_of ?_
  go_wp2
  refine wpN_seq_k ?_
  intro K hK
  refine wpN_send (c := w.heap.size + 2) (cap := 256) (s := 0) (r := 0) (buf := #[]) (tm := false) (v := .int .u8 (s0 : Int)) rfl rfl rfl rfl rfl rfl rfl rfl rfl rfl hc0 (by simp) ?_
  refine hK _ _ ?_
  clear hK K
  simp only [Act.put, List.setIfInBounds_toArray, List.set_cons_succ, List.set_cons_zero, Nat.reduceAdd]
  generalize (w1.alloc (.chan 256 #[] false 0 0 false)).setChan (w.heap.size + 2) 256 ((#[] : Array Value).push (.int .u8 (s0 : Int))) false 1 0 false = W0 at *
  refine wpN_seq_k ?_
  intro K hK
  refine wpN_label ?_
  refine hK _ _ ?_
  clear hK K
  refine wpN_seq_k ?_
  intro K hK
  refine wpN_block ?_
  refine wpN_loop (fun a W => ∃ u9 u10 u11 u12 u13 u20 u21 u22 u23 u24 u25 u26 u27 u28 u29 u30 u31 u32 u33 u34 u35 u36 u37 u38 u39 u40 u41 u42 u43 u44 u45 u46 u47 u48 u49 u50 u51 u52 u53 u54 u55 u56 u57 u58 u59 u60, a = ({ tmps := #[.agg #[.int .i64 (n : Int), v], .int .u8 (s0 : Int), .int .u8 (t0 : Int), .pointer (some ⟨w.heap.size, 0, none⟩), undef, undef, .slice none 0 0, .map (some (w.heap.size + 1)), .chan (some (w.heap.size + 2)), u9, u10, u11, u12, u13, .map (some (w.heap.size + 1)), .int .u8 (s0 : Int), .map (some (w.heap.size + 1)), .chan (some (w.heap.size + 2)), .chan (some (w.heap.size + 2)), .int .u8 (s0 : Int), u20, u21, u22, u23, u24, u25, u26, u27, u28, u29, u30, u31, u32, u33, u34, u35, u36, u37, u38, u39, u40, u41, u42, u43, u44, u45, u46, u47, u48, u49, u50, u51, u52, u53, u54, u55, u56, u57, u58, u59, u60], defers := [] } : Act) ∧ ∃ E h, Hid ((∃ m k g, MvI w W n v E h m k g) ∧ h ≤ E.length ∧ Bfs n ok mvx s0 E h 0)) (fun a W => muR (w.heap.size + 2) W) ?_ ?_
  · exact ⟨_, _, _, _, _, _, _, _, _, _, _, _, _, _, _, _, _, _, _, _, _, _, _, _, _, _, _, _, _, _, _, _, _, _, _, _, _, _, _, _, _, _, _, _, _, _, rfl, [(s0, [])], 0, Lib.hid ⟨⟨_, _, _, I0.out⟩, by simp, B0.out⟩⟩
  · rintro a W ⟨u9, u10, u11, u12, u13, u20, u21, u22, u23, u24, u25, u26, u27, u28, u29, u30, u31, u32, u33, u34, u35, u36, u37, u38, u39, u40, u41, u42, u43, u44, u45, u46, u47, u48, u49, u50, u51, u52, u53, u54, u55, u56, u57, u58, u59, u60, rfl, E, h, HI⟩
    clear I0 B0 hm0 hins hm1 htu hsz1 hgr1 hc0 hg0 hmm hch
    refine wpN_block ?_
    refine wpN_seq_k ?_
    intro K hK
    refine wpN_of ?_
    go_wp2
    by_cases hh : h < E.length
    · obtain ⟨⟨m, k, g, hI⟩, hle, hB⟩ := HI.out
      obtain ⟨x, hx⟩ : ∃ x, E[h]? = some x := ⟨E[h], List.getElem?_eq_getElem hh⟩
      have hq := (qV_cons hx).1
      refine wpN_seq_k ?_
      intro K hK
      refine wpN_select_some (c := w.heap.size + 2) (cap := 256) (buf := qV E h) (closed := false) (s := E.length) (r := h) (tm := false) (z := .int .u8 0) rfl ?_ hI.ch (by rw [qV_size]; omega) ?_
      · simp [go_sem, execOp, rcase, Act.eval]
      · rw [hq]
        have HI2 := Lib.hid (hI.recv hx)
        have HMU := Lib.hid (muR_at hI.ch)
        clear hI hq
        generalize W.setChan (w.heap.size + 2) 256 ((qV E h).extract 1 (qV E h).size) false E.length (h + 1) false = W1 at *
        go_wp2
        refine wpN_block ?_
        refine wpN_cond (t := true) rfl ?_
        rw [if_pos rfl]
        refine wpN_seq_k ?_
        intro K hK
        refine wpN_of ?_
        go_wp2
        have x0 := HI2.out.x0
        refine wpN_seq_k ?_
        intro K hK
        refine wpN_of ?_
        go_wp2
        clear x0
        refine wpN_block ?_
        obtain ⟨I2, hI2⟩ : ∃ I2 : Act → World → Prop, I2 = fun a W => ∃ u10 u11 u12 u13 u20 u21 u22 u23 u24 u25 u28 u29 u30 u31 u32 u33 u34 u35 u36 u37 u38 u39 u40 u41 u42 u43 u44 u45 u46 u47 u48 u49 u50 u51 u52 u53 u54 u55 u56 u57 u58 u59 u60, ∃ d : Nat, d ≤ n ∧ a = ({ tmps := #[.agg #[.int .i64 (n : Int), v], .int .u8 (s0 : Int), .int .u8 (t0 : Int), .pointer (some ⟨w.heap.size, 0, none⟩), undef, undef, .slice none 0 0, .map (some (w.heap.size + 1)), .chan (some (w.heap.size + 2)), .int .u8 (x.1 : Int), u10, u11, u12, u13, .map (some (w.heap.size + 1)), .int .u8 (s0 : Int), .map (some (w.heap.size + 1)), .chan (some (w.heap.size + 2)), .chan (some (w.heap.size + 2)), .int .u8 (s0 : Int), u20, u21, u22, u23, u24, u25, .int .i64 (n : Int), .int .i64 (d : Int), u28, u29, u30, u31, u32, u33, u34, u35, u36, u37, u38, u39, u40, u41, u42, u43, u44, u45, u46, u47, u48, u49, u50, u51, u52, u53, u54, u55, u56, u57, u58, u59, u60], defers := [] } : Act) ∧ ∃ E', Hid ((∃ m k g, MvI w W n v E' (h + 1) m k g) ∧ h < E'.length ∧ Bfs n ok mvx s0 E' h d ∧ E'[h]? = some x) := ⟨_, rfl⟩
        refine wpN_loop I2 (fun a W => muD n a) ?_ ?_
        · rw [hI2]
          exact ⟨_, _, _, _, _, _, _, _, _, _, _, _, _, _, _, _, _, _, _, _, _, _, _, _, _, _, _, _, _, _, _, _, _, _, _, _, _, _, _, _, _, _, _, 0, by omega, rfl, E, Lib.hid ⟨⟨_, _, _, HI2.out⟩, hh, hB, hx⟩⟩
        · intro a V hI
          have hI0 := hI
          rw [hI2] at hI
          obtain ⟨u10, u11, u12, u13, u20, u21, u22, u23, u24, u25, u28, u29, u30, u31, u32, u33, u34, u35, u36, u37, u38, u39, u40, u41, u42, u43, u44, u45, u46, u47, u48, u49, u50, u51, u52, u53, u54, u55, u56, u57, u58, u59, u60, d, hd, rfl, E', HJ⟩ := hI
          clear hI0
          obtain ⟨⟨m2, k2, g2, hJ⟩, hlE, hB2, hx2⟩ := HJ.out
          have hsz := Bfs.size hB2 hs (fun s d a b => mvx_lt a b)
          have hxn := hsz.1 x (List.mem_of_getElem? hx2)
          have hEl := hsz.2
          have hx8 : x.1 < 256 := by omega
          clear HJ hsz HI2 HI hh hB hx
          by_cases hlt : d < n
          · have hd8 : d < 8 := by omega
            have hlI : (d : Int) < (n : Int) := by omega
            obtain ⟨y, hy⟩ : ∃ y, mvx x.1 d = y := ⟨_, rfl⟩
            have hyn : y < 2 ^ n := hy ▸ mvx_lt hxn hlt
            have hy8 : y < 256 := by omega
            have HMV := Lib.hid (fun W => moved_any x.1 d W hx8 hd8)
            have HY := Lib.hid (show x.1 ^^^ 2 ^ d = y from hy)
            obtain ⟨vv, hlk, hval⟩ := look_ok hJ.own hJ.mg hy8
            have q0 := hJ.x0
            have q1 := hJ.x1
            have HKP := Lib.hid (keeps_any B (n : Int) v ms y V (own_belG hown hJ.bel) hy8 hq hl)
            cases hf : (g2 y).isSome
            · rw [hf] at hlk
              have hnew : ∀ z ∈ E', z.1 ≠ y := fun z hz e => by
                have := (hJ.dom y).2 ⟨z.2, by rw [← e]; exact hz⟩
                rw [hf] at this
                cases this
              cases ho : ok y
              · have hB3 := Lib.hid (hB2.old hx2 (fun h => by rw [hy, ho] at h; cases h))
                have HJJ := Lib.hid hJ
                have HO := Lib.hid ((hok y hy8).trans ho)
                clear hJ hnew hval hf ho
                refine wpN_of ?_
                go_wp2_with (first | (go_at_call 92; with_reducible refine (HMV.out _).mono ?_; rintro e w9 ⟨rfl, rfl⟩; rw [HY.out]) | (go_at_call 91; with_reducible refine (HKP.out).mono ?_; rintro e W2 ⟨rfl, hd2⟩; rw [HO.out]))
                refine ⟨?_, by show n - (intOf (.int .i64 ((d : Int) + 1))).toNat < n - (intOf (.int .i64 (d : Int))).toNat; simp [intOf]; omega⟩
                rw [hI2]
                exact ⟨_, _, _, _, _, _, _, _, _, _, _, _, _, _, _, _, _, _, _, _, _, _, _, _, _, _, _, _, _, _, _, _, _, _, _, _, _, _, _, _, _, _, _, d + 1, hlt, rfl, E', Lib.hid ⟨⟨m2, k2, g2, HJJ.out.below hd2⟩, hlE, hB3.out, hx2⟩⟩
              · skip
                have hB3 := Lib.hid (hB2.new hx2 hlt (by rw [hy]; exact ho) (fun z hz => by rw [hy]; exact hnew z hz))
                rw [hy] at hB3
                have HJJ := Lib.hid hJ
                have HO := Lib.hid ((hok y hy8).trans ho)
                have HNW := Lib.hid hnew
                clear hJ hnew hval hf ho
                refine wpN_seq_k ?_
                intro K hK
                refine wpN_of ?_
                go_wp2
                refine wpN_seq_k ?_
                intro K hK
                refine wpN_of ?_
                go_wp2
                refine wpN_seq_k ?_
                intro K hK
                refine wpN_block ?_
                refine wpN_seq_k ?_
                intro K hK
                refine wpN_of ?_
                go_wp2
                refine wpN_seq_k ?_
                intro K hK
                refine wpN_of ?_
                go_wp2_with (go_at_call 92; with_reducible refine (HMV.out _).mono ?_; rintro e w9 ⟨rfl, rfl⟩; rw [HY.out])
                refine wpN_seq_k ?_
                intro K hK
                refine wpN_of ?_
                go_wp2
                refine wpN_seq_k ?_
                intro K hK
                refine wpN_of ?_
                go_wp2_with (go_at_call 91; with_reducible refine (HKP.out).mono ?_; rintro e W2 ⟨rfl, hd2⟩; rw [HO.out])
                refine wpN_cond (t := true) rfl ?_
                rw [if_pos rfl]
                have HJ2 := Lib.hid (HJJ.out.below hd2)
                obtain ⟨u, hgu, hou⟩ := HJ2.out.row x (List.mem_of_getElem? hx2)
                have hlu := look_at HJ2.out.own HJ2.out.mg hx8 hgu
                have hlx := HJ2.out.len x (List.mem_of_getElem? hx2)
                have HCL := Lib.hid (clone_anyQ u (lsV x.2) W2 (row_ownG hou) (by rw [lsV_len]; omega))
                have HSZ := Lib.hid HJ2.out.siz
                clear q0 q1 hlk hd2 HKP hou
                refine wpN_seq_k ?_
                intro K hK
                refine wpN_of ?_
                go_wp2_with fail
                (with_reducible refine (HCL.out).mono ?_)
                rintro e W3 ⟨uc, rfl, hoc, hd3⟩
                have HOC := Lib.hid hoc
                have HD3 := Lib.hid hd3
                obtain ⟨i0, hi, hz0, hz1, hz2⟩ := info_parts info_i64y
                clear hlu hoc hd3
                go_wp2_with (at_builtin; refine wpList_append_own _ rfl _ _ 43 rfl W2.heap.size 2 i0 (.int .i64 0) 1 8 Try.underlying43 hi hz0 hz1 hz2 rfl (by decide) _ _ _ rfl (World.ownsRow.alloc (show W3.ownsRow W2.heap.size 2 1 uc (lsV x.2).length (intsV (lsV x.2)) from HOC.out) _) ⟨W3.heap.size, 0, none⟩ 1 1 [.int .i64 (d : Int)] rfl rfl ?c1z ?c2z ?c3z ?c4z ?c5z ?_)
                try (case c1z => intro j u hj; match j, hj with | 0, hj => (simp at hj; subst hj; simp [Addr.add]) | j + 1, hj => (simp at hj))
                case c2z => simp [Value.oneCell']
                case c3z => have hx9 := lsV_len x.2; unfold maxLen; omega
                case c4z => have hx9 := lsV_len x.2; omega
                case c5z => have hx9 := HD3.out.size; rw [World.size_alloc]; omega
                intro v' W4 hout' hgrow _
                have hB4 : Below W2.heap.size W2 W4 := (HD3.out.alloc HD3.out.size _).grown hgrow (by simp; have := HD3.out.size; omega) (fun k hk => (World.ownsRow.lt (show W3.ownsRow W2.heap.size 2 1 uc (lsV x.2).length (intsV (lsV x.2)) from HOC.out) k hk).1)
                have HJ4 := Lib.hid (HJ2.out.below hB4)
                have HU4 := Lib.hid (show OwnI W4 (w.heap.size + 3) v' (lsV (x.2 ++ [d])) from by
                  refine own_ley (B := W2.heap.size) ?_ HSZ.out
                  unfold OwnI
                  rw [lsV_snoc]
                  simpa [intsV] using hout')
                clear hout' hgrow hB4
                go_wp2_with (at_mapUpdate; refine wpList_mapUpdate_own _ rfl _ _ _ 119 rfl 97 43 (Maps.int_keyed Try.underlying97) Try.underlying119 rawE (w.heap.size + 1) k2 _ rfl HJ4.out.own (by have := HJ4.out.le; unfold maxLen; omega) _ _ _ rfl rfl (keyG hy8) (.held v') [] rfl ?_)
                intro W5 hm5 hg5
                have HP := HJ4.out.push (by omega) HNW.out (by rw [List.length_append]; simp; omega) HU4.out hm5 hg5
                have hc5 := HP.1
                have HJ6 := Lib.hid HP.2
                clear HP hm5 hg5
                go_wp2
                refine wpN_send (c := w.heap.size + 2) (cap := 256) (s := E'.length) (r := h + 1) (buf := qV E' (h + 1)) (tm := false) (v := .int .u8 (y : Int)) rfl rfl rfl rfl rfl rfl rfl rfl rfl rfl hc5 (by rw [qV_size]; omega) ?_
                refine hK _ _ ?_
                simp only [Act.put, List.setIfInBounds_toArray, List.set_cons_succ, List.set_cons_zero, Nat.reduceAdd]
                refine wpN_of ?_
                go_wp2
                refine ⟨?_, by show n - (intOf (.int .i64 ((d : Int) + 1))).toNat < n - (intOf (.int .i64 (d : Int))).toNat; simp [intOf]; omega⟩
                try rw [hI2]
                exact ⟨_, _, _, _, _, _, _, _, _, _, _, _, _, _, _, _, _, _, _, _, _, _, _, _, _, _, _, _, _, _, _, _, _, _, _, _, _, _, _, _, _, _, _, d + 1, hlt, rfl, E' ++ [(y, x.2 ++ [d])], Lib.hid ⟨⟨_, _, _, HJ6.out⟩, by rw [List.length_append]; omega, hB3.out, by rw [List.getElem?_append_left hlE]; exact hx2⟩⟩
            · rw [hf] at hlk
              have hB3 := Lib.hid (hB2.old hx2 (fun _ => by rw [hy]; exact (hJ.dom y).1 hf))
              have HJJ := Lib.hid hJ
              clear hJ hval hf HKP
              refine wpN_of ?_
              go_wp2_with (go_at_call 92; with_reducible refine (HMV.out _).mono ?_; rintro e w9 ⟨rfl, rfl⟩; rw [HY.out])
              refine ⟨?_, by show n - (intOf (.int .i64 ((d : Int) + 1))).toNat < n - (intOf (.int .i64 (d : Int))).toNat; simp [intOf]; omega⟩
              rw [hI2]
              exact ⟨_, _, _, _, _, _, _, _, _, _, _, _, _, _, _, _, _, _, _, _, _, _, _, _, _, _, _, _, _, _, _, _, _, _, _, _, _, _, _, _, _, _, _, d + 1, hlt, rfl, E', Lib.hid ⟨⟨m2, k2, g2, HJJ.out⟩, hlE, hB3.out, hx2⟩⟩
          · obtain rfl : d = n := by omega
            have HJJ := Lib.hid hJ
            clear hJ
            refine wpN_of ?_
            go_wp2
            refine ⟨⟨E', h + 1, Lib.hid ⟨⟨m2, k2, g2, HJJ.out⟩, by omega, hB2.next hlE⟩⟩, ?_⟩
            rw [muR_at HJJ.out.ch, HMU.out]
            omega
    · obtain ⟨⟨m, k, g, hI⟩, hle, hB⟩ := HI.out
      have hq0 : qV E h = #[] := by
        apply Array.eq_empty_of_size_eq_zero
        rw [qV_size]
        omega
      have hch := hI.ch
      rw [hq0] at hch
      refine wpN_seq_k ?_
      intro K hK
      refine wpN_select_none (c := w.heap.size + 2) (cap := 256) (s := E.length) (r := h) (tm := false) (z := .int .u8 0) rfl ?_ hch ?_
      · simp [go_sem, execOp, rcase, Act.eval]
      · clear hch hq0
        go_wp2
        refine wpN_of ?_
        go_wp2
        obtain ⟨l, hm, hF⟩ := hB.first (by omega) hp
        obtain ⟨u, hgu, hou⟩ := hI.row _ hm
        have hlu := look_at hI.own hI.mg ht8 hgu
        refine wpN_of ?_
        go_wp2
        go_ret
        exact ⟨_, rfl, l, own_ley hou (by omega), hF, hI.bel⟩
end Go.Proofs.Ythbofhlfggkolaa
