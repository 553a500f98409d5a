/-
  Walks through communication in one goroutine where nothing waits: in frames that are called in the ordinary way. Conditions: those that each theorem states.
-/
import Derived.Test.YthbofhlfggkolaaRows
import Derived.WalkKit
import Derived.Scope
import Derived.Conc.LoneSelect
namespace Go.Proofs.Ythbofhlfggkolaa
open Go.RowKit
set_option linter.unusedVariables false
set_option linter.unusedSimpArgs false

open Go.Conc
/-- As Code.wp, for frames that are called in the ordinary way. -/
def wpN (P : Program) (c : Code) (Q : Exit → Act → World → Prop) (a : Act) (w : World) : Prop :=
  ∀ (b : Frame) (k : List Item) (cs : List Frame), b.kind = .normal → ∃ e a' w', Q e a' w' ∧ Arrives P (lone (b.at a (.code c :: k)) cs w) b k cs e a' w'
section
variable {P : Program} {Q : Exit → Act → World → Prop} {a : Act} {w : World}
theorem wpN_of {c : Code} (h : c.wp P Q a w) : wpN P c Q a w := fun b k cs _ => h b k cs
theorem wpN_mono {c : Code} {Q' : Exit → Act → World → Prop} (h : wpN P c Q a w) (hq : ∀ e a w, Q e a w → Q' e a w) : wpN P c Q' a w :=
  fun b k cs hb => let ⟨e, a', w', q, r⟩ := h b k cs hb; ⟨e, a', w', hq _ _ _ q, r⟩
theorem wpN_seq {x y : Code} (h : wpN P x (Exit.then (wpN P y Q) Q) a w) : wpN P (Code.seq x y) Q a w := by
  intro b k cs hb
  obtain ⟨e, a₁, w₁, hq, harr⟩ := h b (.code y :: k) cs hb
  cases e with
  | normal =>
    obtain ⟨e₂, a₂, w₂, hq₂, harr₂⟩ := hq b k cs hb
    exact ⟨e₂, a₂, w₂, hq₂, .of_steps (.head step_seq harr) harr₂⟩
  | exit id => exact ⟨_, a₁, w₁, hq, .of_steps (.one step_seq) (.pass (x := .code y) rfl (fun _ _ => .inl (by simp)) harr)⟩
  | goto l => exact ⟨_, a₁, w₁, hq, .of_steps (.one step_seq) (.pass (x := .code y) rfl (fun _ _ => .inl (by simp)) harr)⟩
  | ret => exact ⟨_, a₁, w₁, hq, .of_steps (.one step_seq) (.pass (x := .code y) rfl (fun _ _ => .inl (by simp)) harr)⟩
  | panic ch => exact ⟨_, a₁, w₁, hq, .of_steps (.one step_seq) (.pass (x := .code y) rfl (fun _ _ => .inl (by simp)) harr)⟩
  | outgrown => exact ⟨_, a₁, w₁, hq, .of_steps (.one step_seq) (.pass (x := .code y) rfl (fun _ _ => .inl (by simp)) harr)⟩
theorem wpN_cond {c : Operand} {x y : Code} {t : Bool} (hc : a.eval c = .bool t) (h : wpN P (if t then x else y) Q a w) : wpN P (Code.cond c x y) Q a w :=
  fun b k cs hb => let ⟨e, a', w', q, r⟩ := h b k cs hb; ⟨e, a', w', q, .of_steps (.one (step_cond hc)) r⟩
theorem wpN_block {id : Nat} {c : Code} (h : wpN P c (Exit.inBlock id Q) a w) : wpN P (Code.block id c) Q a w := by
  intro b k cs hb
  obtain ⟨e, a₁, w₁, hq, harr⟩ := h b (.inBlock id :: k) cs hb
  cases e with
  | normal => exact ⟨.normal, a₁, w₁, hq, .head step_block (Steps.trans harr (.one step_inBlock))⟩
  | exit id' =>
    by_cases hid : id' = id
    · simp only [Exit.inBlock, hid, if_true] at hq
      exact ⟨.normal, a₁, w₁, hq, .head step_block (harr k (by simp [exitTo, hid]))⟩
    · simp only [Exit.inBlock, hid, if_false] at hq
      refine ⟨.exit id', a₁, w₁, hq, fun k' hk => .head step_block (harr k' ?_)⟩
      have : (id == id') = false := by simp; exact fun h => hid h.symm
      simp [exitTo, this, hk]
  | goto l => exact ⟨_, a₁, w₁, hq, fun k' hk => .head step_block (harr k' (by simp [gotoIn, hk]))⟩
  | ret => exact ⟨_, a₁, w₁, hq, .of_steps (.one step_block) harr⟩
  | panic ch => exact ⟨_, a₁, w₁, hq, .of_steps (.one step_block) harr⟩
  | outgrown => exact ⟨_, a₁, w₁, hq, .of_steps (b := b) (k := k) (cs := cs) (e := .outgrown) (.one step_block) harr⟩
theorem wpN_loop {c : Code} (I : Act → World → Prop) (μ : Act → World → Nat) (h₀ : I a w)
    (round : ∀ a w, I a w → wpN P c (Exit.then (fun a' w' => I a' w' ∧ μ a' w' < μ a w) Q) a w) : wpN P (Code.loop c) Q a w := by
  intro b k cs hb
  have key : ∀ n a w, μ a w = n → I a w →
      ∃ e a' w', Q e a' w' ∧ Arrives P (lone (b.at a (.code c :: .inLoop c :: k)) cs w) b k cs e a' w' := by
    intro n
    induction n using Nat.strongRecOn with
    | _ n ih =>
      intro a w hn hI
      obtain ⟨e, a₁, w₁, hq, harr⟩ := round a w hI b (.inLoop c :: k) cs hb
      cases e with
      | normal =>
        obtain ⟨hI₁, hlt⟩ := hq
        obtain ⟨e₂, a₂, w₂, hq₂, harr₂⟩ := ih (μ a₁ w₁) (hn ▸ hlt) a₁ w₁ rfl hI₁
        exact ⟨e₂, a₂, w₂, hq₂, .of_steps (Steps.trans harr (.one step_inLoop)) harr₂⟩
      | exit id => exact ⟨_, a₁, w₁, hq, .pass (x := .inLoop c) rfl (fun _ _ => .inl (by simp)) harr⟩
      | goto l => exact ⟨_, a₁, w₁, hq, .pass (x := .inLoop c) rfl (fun _ _ => .inl (by simp)) harr⟩
      | ret => exact ⟨_, a₁, w₁, hq, .pass (x := .inLoop c) rfl (fun _ _ => .inl (by simp)) harr⟩
      | panic ch => exact ⟨_, a₁, w₁, hq, .pass (x := .inLoop c) rfl (fun _ _ => .inl (by simp)) harr⟩
      | outgrown => exact ⟨_, a₁, w₁, hq, .pass (x := .inLoop c) rfl (fun _ _ => .inl (by simp)) harr⟩
  obtain ⟨e, a', w', hq, harr⟩ := key _ a w rfl h₀
  exact ⟨e, a', w', hq, .of_steps (.one step_loop) harr⟩
theorem wpN_seq_k {x y : Code} (h : ∀ K : Act → World → Prop, (∀ a w, wpN P y Q a w → K a w) → wpN P x (Exit.then K Q) a w) : wpN P (Code.seq x y) Q a w := wpN_seq (h _ fun _ _ h => h)
theorem wpN_scope {c : Code} (h : wpN P c (Exit.noGoto Q) a w) : wpN P (Code.scope c) Q a w := by
  intro b k cs hb
  obtain ⟨e, a₁, w₁, hq, harr⟩ := h b (.inScope c :: k) cs hb
  cases e with
  | normal => exact ⟨.normal, a₁, w₁, hq, .head step_scope (Steps.trans harr (.one step_inScope))⟩
  | exit id => exact ⟨.exit id, a₁, w₁, hq, fun k' hk => .head step_scope (harr k' (by simp [exitTo, hk]))⟩
  | goto l => exact hq.elim
  | ret => exact ⟨_, a₁, w₁, hq, .of_steps (.one step_scope) harr⟩
  | panic ch => exact ⟨_, a₁, w₁, hq, .of_steps (.one step_scope) harr⟩
  | outgrown => exact ⟨_, a₁, w₁, hq, .of_steps (.one step_scope) harr⟩
theorem calls_of_wpN {f : FuncId} {fn : Func} {c : Code} {args : Array Value} {R : Ending → World → Prop}
    (hf : P.funcs[f]? = some fn) (hb : fn.body = some c) (hno : ∀ w, ¬ R .outgrown w)
    (h : wpN P c (bodyPost P fn R) { tmps := args ++ Array.replicate (fn.ntmps - args.size) undef, defers := [] } w) : Calls P f args w R := by
  intro cs
  let b : Frame := { (default : Frame) with fn := f, kind := .normal }
  have henter : Frame.enter P f args .normal =
      b.at { tmps := args ++ Array.replicate (fn.ntmps - args.size) undef, defers := [] } [.code c] := by
    simp [Frame.enter, Frame.at, hf, hb, b]
  obtain ⟨e, a', w', hq, harr⟩ := h b [] cs rfl
  rw [← henter] at harr
  cases e with
  | normal =>
    obtain ⟨hd, v, hr, hR⟩ := hq
    exact ⟨.returned v, w', _, hR, Steps.trans harr (.one step_end), rfl, rfl, hd, rfl, fn, hf, hr⟩
  | ret =>
    obtain ⟨hd, v, hr, hR⟩ := hq
    obtain ⟨todo, hs⟩ := harr
    exact ⟨.returned v, w', _, hR, hs, rfl, rfl, hd, rfl, fn, hf, hr⟩
  | panic chain =>
    obtain ⟨hd, hR⟩ := hq
    obtain ⟨todo, hs⟩ := harr
    exact ⟨.panicked chain, w', _, hR, hs, rfl, rfl, hd, fn, hf⟩
  | exit id => exact hq.elim
  | goto l => exact hq.elim
  | outgrown => exact absurd hq (hno _)
theorem wanted_plain {o : Oper} (h : o.guard = none) (y : Nat → Option Bool) : Region.wanted o y = true := by simp [Region.wanted, h]
/-- A region whose last operation is a send into a channel with room; the operations ahead of it are moves. -/
theorem wpN_send {id c cap s r : Nat} {buf : Array Value} {tm : Bool} {v : Value} {d1 d2 i1 i2 : Nat} {o0 o1 o2 : Oper}
    (e0 : o0.op = .move (.tmp i1)) (g0 : o0.guard = none) (e1 : o1.op = .move (.tmp i2)) (g1 : o1.guard = none) (e2 : o2.op = .send (.tmp d1) (.tmp d2)) (g2 : o2.guard = none)
    (h1 : a.tmps.getD i1 undef = .chan (some c)) (h2 : (a.put o0.dst (.chan (some c))).tmps.getD i2 undef = v)
    (hd1 : ((a.put o0.dst (.chan (some c))).put o1.dst v).tmps.getD d1 undef = .chan (some c)) (hd2 : ((a.put o0.dst (.chan (some c))).put o1.dst v).tmps.getD d2 undef = v)
    (hc : w.heap[c]? = some (.chan cap buf false s r tm)) (hroom : buf.size < cap)
    (hQ : Q .normal (((a.put o0.dst (.chan (some c))).put o1.dst v).put o2.dst undef) (w.setChan c cap (buf.push v) false (s + 1) r tm)) :
    wpN P (Code.region id #[o0, o1, o2] false) Q a w := by
  intro b k cs hb
  refine ⟨.normal, _, _, hQ, ?_⟩
  have hbk : b.kind ≠ .early := by rw [hb]; decide
  have x0 : (execOp a.eval o0).run P w = .ok (.value (.chan (some c))) w := by unfold execOp; rw [e0]; simp only [Act.eval, h1]; rfl
  have x1 : (execOp (a.put o0.dst (.chan (some c))).eval o1).run P w = .ok (.value v) w := by unfold execOp; rw [e1]; simp only [Act.eval, h2]; rfl
  have x2 : (execOp ((a.put o0.dst (.chan (some c))).put o1.dst v).eval o2).run P w = .ok (.comm #[scase c v (.tuple #[])] true .send) w := by unfold execOp; rw [e2]; simp only [Act.eval, hd1, hd2]; rfl
  have key : LoneTo P (fun g' w'' => g' = G (b.at (((a.put o0.dst (.chan (some c))).put o1.dst v).put o2.dst undef) k) cs ∧ w'' = w.setChan c cap (buf.push v) false (s + 1) r tm) (G (b.at a (.code (Code.region id #[o0, o1, o2] false) :: k)) cs) w := by
    refine LoneTo.goes (n := 3) ?_
    s_reg
    s_in
    refine goes_oper_k (o := o0) rfl (wanted_plain g0 _) hbk (fun K hK => ?_)
    rw [x0]
    refine hK _ _ ⟨trivial, ?_⟩
    clear hK K
    s_in
    refine goes_oper_k (o := o1) rfl (wanted_plain g1 _) hbk (fun K hK => ?_)
    rw [x1]
    refine hK _ _ ⟨trivial, ?_⟩
    clear hK K
    s_stop
    refine LoneTo.step (step_lone_send_room (c := c) (cap := cap) (buf := buf) (s := s) (r := r) (tm := tm) (stepG_comm (o := o2) rfl (wanted_plain g2 _) hbk x2) hc hroom) ?_
    rw [Frame.finish_at]
    refine LoneTo.goes (n := 1) ?_
    show Goes _ _ _ _ _ _ (G (b.at (((a.put o0.dst (.chan (some c))).put o1.dst v).put o2.dst undef) (.inRegion #[o0, o1, o2] [] :: k)) cs) _
    s_c stepG_region_end
    s_stop
    exact LoneTo.done ⟨rfl, rfl⟩
  obtain ⟨g', w'', hs, rfl, rfl⟩ := key
  exact hs
/-- The first operation of a region is a communication that goes through at once: the rest is walked as ever. -/
theorem wpN_first {id : Nat} {o : Oper} {l : List Oper} {a' : Act} {w' : World} (hs : ∀ (b : Frame) (k : List Item) (cs : List Frame), b.kind = .normal → step P (lone (b.at a (.inRegion (o :: l).toArray (0 :: List.range' 1 l.length) :: k)) cs w) = .next (lone (b.at a' (.inRegion (o :: l).toArray (List.range' 1 l.length) :: k)) cs w'))
    (h : wpList P (o :: l).toArray Q l a' w') : wpN P (Code.region id (o :: l).toArray false) Q a w := by
  intro b k cs hb
  have h2 : wpOps P (o :: l).toArray Q (List.range' 1 l.length) a' w' := by
    rw [wpOps_eq_wpList l 1 (fun j => by simp [Nat.add_comm 1 j])]
    exact h
  obtain ⟨e, a₂, w₂, hq, harr⟩ := wp_ops _ a' w' h2 b k cs
  have hr : step P (lone (b.at a (.code (.region id (o :: l).toArray false) :: k)) cs w) = .next (lone (b.at a (.inRegion (o :: l).toArray (0 :: List.range' 1 l.length) :: k)) cs w) := by
    rw [step_region]
    congr 1
    simp [List.range_eq_range', List.range'_succ]
  exact ⟨e, a₂, w₂, hq, .of_steps (.head hr (.one (hs b k cs hb))) harr⟩
/-- A select of one receive with a default: the buffer holds something. -/
theorem wpN_select_some {id c cap s r : Nat} {buf : Array Value} {closed tm : Bool} {z : Value} {o : Oper} {l : List Oper} (g : o.guard = none)
    (x : (execOp a.eval o).run P w = .ok (.comm #[rcase c z] false .select) w) (hc : w.heap[c]? = some (.chan cap buf closed s r tm)) (hsome : 0 < buf.size)
    (h : wpList P (o :: l).toArray Q l (a.put o.dst (.tuple #[goInt 0, .bool true, buf.getD 0 undef])) (w.setChan c cap (buf.extract 1 buf.size) closed s (r + 1) tm)) : wpN P (Code.region id (o :: l).toArray false) Q a w := by
  refine wpN_first (fun b k cs hb => ?_) h
  have hbk : b.kind ≠ .early := by rw [hb]; decide
  refine (step_lone_select_recv_buf (c := c) (cap := cap) (buf := buf) (closed := closed) (s := s) (r := r) (tm := tm) (stepG_comm (o := o) (by simp) (wanted_plain g _) hbk x) hc hsome).trans ?_
  rw [Frame.finish_at]
  rfl
/-- .. it is empty: the default. -/
theorem wpN_select_none {id c cap s r : Nat} {tm : Bool} {z : Value} {o : Oper} {l : List Oper} (g : o.guard = none)
    (x : (execOp a.eval o).run P w = .ok (.comm #[rcase c z] false .select) w) (hc : w.heap[c]? = some (.chan cap #[] false s r tm))
    (h : wpList P (o :: l).toArray Q l (a.put o.dst (.tuple #[goInt (-1), .bool false, z])) w) : wpN P (Code.region id (o :: l).toArray false) Q a w := by
  refine wpN_first (fun b k cs hb => ?_) h
  have hbk : b.kind ≠ .early := by rw [hb]; decide
  refine (step_lone_select_default (c := c) (cap := cap) (s := s) (r := r) (tm := tm) (stepG_comm (o := o) (by simp) (wanted_plain g _) hbk x) hc).trans ?_
  rw [Frame.finish_at]
  rfl
end
end Go.Proofs.Ythbofhlfggkolaa
