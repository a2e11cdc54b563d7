/-
  maps.Values of the entries: each comes once, in some order, for every body of a loop.
-/
import Derived.RangeFuncNested
import Derived.RangeFuncBound
import Derived.RangeFuncCalls
import Derived.RangeFuncLeaves
import Derived.RangeFuncKeeps
import Derived.RangeFuncSeq
import Derived.Shelf.Abstract
import Derived.Shelf.AbstractIn
import Derived.Shelf.RegionOpen
import Derived.Sort.MapsRangeIn
import Derived.WalkKit
import Derived.OwnWalkIn
import Derived.TacticsInMore
import Derived.RegionIn
import Derived.LoopNIn
import Derived.LoopIn
import Derived.Maps.AppendAt
import Derived.Test.YtiihlgcafppehaaF3
namespace Go.Proofs.Ytiihlgcafppehaa
open Go.RowKit Go.Maps Go.Shelf
set_option linter.unusedSimpArgs false
set_option linter.unusedVariables false
section
variable {F : Fence} {k : Nat} {ops : Array Oper} {rest : List Oper} {op : Oper} {a : Act} {w : World} {Q : Exit → Act → World → Prop}
theorem ldNi (x : Operand) (hg : op.guard = none) (ho : op.op = .load 36 x) (b o : Nat) (n : En) (hx : a.eval x = .pointer (some ⟨b, o, none⟩)) (hc : w.rangeAt b o (ecs n))
    (h : wpListIn F k Try.prog ops Q rest (a.put op.dst (eV n)) w) : wpListIn F k Try.prog ops Q (op :: rest) a w := by
  refine wpListIn_plain hg fun K' hK' => ?_
  unfold Oper.wpIn
  refine ⟨by simp [Oper.about, ho], ?_⟩
  rw [Oper.semAt_plain F _ _ (by rw [ho]; intro c hc'; cases hc')]
  unfold execOp
  simp only [ho, hx, Instr.loadAt, Instr.sureAddr, Sem.run_bind, Sem.run_pure, Result.andThen_ok, run_loadVar_mid w b o _ (ecs n) _ hc Try.underlying36 rfl (by rw [infoEs, ecs_len])]
  exact hK' _ _ h
theorem alNi (hg : op.guard = none) (ho : op.op = .alloc 36)
    (h : ∀ W, w.grownBy W none → Row W w.heap.size 36 (ecs zeroE) → wpListIn F k Try.prog ops Q rest (a.put op.dst (.pointer (some ⟨w.heap.size, 0, none⟩))) W) : wpListIn F k Try.prog ops Q (op :: rest) a w := by
  refine wpListIn_plain hg fun K' hK' => ?_
  obtain ⟨i, hi, hz⟩ : ∃ i, Try.prog.info? 36 = some i ∧ i.zero = some (.agg (ecs zeroE).toArray) := by
    have hT := infoEz
    cases hq : Try.prog.info? 36 with
    | none => simp [hq] at hT
    | some i => exact ⟨i, rfl, by simpa [hq] using hT⟩
  unfold Oper.wpIn
  refine ⟨by simp [Oper.about, ho], ?_⟩
  rw [Oper.semAt_plain F _ _ (by rw [ho]; intro c hc'; cases hc')]
  unfold execOp
  simp only [ho, Sem.run_bind, run_alG hi hz, Result.andThen_ok, Sem.run_pure]
  exact hK' _ _ (h _ (World.grownBy_alloc w _ none) (Row.new w _ _))
theorem stNi (x y : Operand) (hg : op.guard = none) (ho : op.op = .store 36 x y) (b : Nat) (n u : En) (hx : a.eval x = .pointer (some ⟨b, 0, none⟩)) (hy : a.eval y = .agg (ecs n).toArray) (hr : Row w b 36 (ecs u))
    (h : ∀ W, w.grownBy W (some b) → Row W b 36 (ecs n) → wpListIn F k Try.prog ops Q rest (a.put op.dst undef) W) : wpListIn F k Try.prog ops Q (op :: rest) a w := by
  refine wpListIn_plain hg fun K' hK' => ?_
  have ht : w.there b 0 (ecs n).toArray.size := by simpa [ecs_len] using hr.there (n := 51) (by rw [ecs_len]; omega)
  have hr2 : Row (w.setCells b 0 (ecs n)) b 36 (ecs n) := by
    have := Row.setCells (ecs n) [] w (ecs u) hr (by rw [ecs_len, ecs_len])
    simpa using this
  unfold Oper.wpIn
  refine ⟨by simp [Oper.about, ho], ?_⟩
  rw [Oper.semAt_plain F _ _ (by rw [ho]; intro c hc'; cases hc')]
  unfold execOp
  simp only [ho, hx, hy, Instr.storeAt, Instr.sureAddr, Sem.run_bind, Sem.run_pure, Result.andThen_ok, run_storeVar_mid w b 0 _ _ ht (by rw [infoEs]; simp [ecs_len]) (all_oneCell_toArray (ecs_one n))]
  exact hK' _ _ (h _ (grownBy_setCells b _ _ _) hr2)
end
theorem bsN1 (n : En) (w : World) : (Instr.buildSlice 22 1 #[(0, eV n)]).run Try.prog w = .ok (.slice (some ⟨w.heap.size, 0, none⟩) 1 1) (w.alloc (.cells (ecs n).toArray 36)) := by
  obtain ⟨p, i, a⟩ := n
  induction p using Pr.lits with | h =>
  induction a using Ad.lits with | h =>
  show _ = _
  kernel_rfl
/-- What has come, and what is left. -/
def Coll (L : List En) (left : Lit → Bool) (ss : List En) : Prop := ∃ rs : List En, (ss ++ rs).Perm L ∧ ∀ l, left l = true ↔ ∃ n ∈ rs, kl n.p = l
theorem Coll.step {L : List En} {left : Lit → Bool} {ss : List En} (h : Coll L left ss) (hw : ∀ n ∈ L, wfQ n.p) (hd : (L.map En.p).Nodup) {l : Lit} (hl : left l = true) : ∃ n, n ∈ L ∧ kl n.p = l ∧ Coll L (fun z => left z && !z.sameKey l) (ss ++ [n]) := by
  obtain ⟨rs, hp, hr⟩ := h
  obtain ⟨n, hn, rfl⟩ := (hr l).1 hl
  obtain ⟨r1, r2, rfl⟩ := List.append_of_mem hn
  have hL : ∀ m, m ∈ ss ++ (r1 ++ n :: r2) ↔ m ∈ L := fun m => hp.mem_iff
  have hnL : n ∈ L := (hL n).1 (by simp)
  refine ⟨n, hnL, rfl, r1 ++ r2, ?_, fun z => ?_⟩
  · refine List.Perm.trans ?_ hp
    rw [List.append_assoc]
    exact List.Perm.append_left ss (by simpa using (List.perm_middle (a := n) (l₁ := r1) (l₂ := r2)).symm)
  · have hnd : ((ss ++ (r1 ++ n :: r2)).map En.p).Nodup := (hp.map _).nodup_iff.2 hd
    have hne : ∀ m ∈ r1 ++ r2, kl m.p ≠ kl n.p := by
      intro m hm e
      have hmL : m ∈ L := (hL m).1 (by simp at hm ⊢; rcases hm with h | h <;> simp [h])
      have ek : m.p = n.p := kl_inj (hw m hmL) (hw n hnL) e
      rw [List.map_append, List.nodup_append] at hnd
      have h2 := hnd.2.1
      rw [List.map_append, List.map_cons] at h2
      have h3 := (List.perm_middle (a := En.p n) (l₁ := r1.map En.p) (l₂ := r2.map En.p)).nodup_iff.1 h2
      rw [List.nodup_cons] at h3
      apply h3.1
      rw [← ek, ← List.map_append]
      exact List.mem_map_of_mem hm
    rw [Bool.and_eq_true, hr]
    constructor
    · rintro ⟨⟨m, hm, rfl⟩, hs⟩
      refine ⟨m, ?_, rfl⟩
      rcases List.mem_append.1 hm with h | h
      · exact List.mem_append_left _ h
      · rcases List.mem_cons.1 h with rfl | h
        · rw [WideAt.sameKey_self (kl_key (hw m hnL))] at hs
          cases hs
        · exact List.mem_append_right _ h
    · rintro ⟨m, hm, rfl⟩
      refine ⟨⟨m, ?_, rfl⟩, ?_⟩
      · rcases List.mem_append.1 hm with h | h
        · exact List.mem_append_left _ h
        · exact List.mem_append_right _ (List.mem_cons_of_mem _ h)
      · rw [sameKey_ne (hne m hm)]; rfl
theorem Coll.done {L : List En} {left : Lit → Bool} {ss : List En} (h : Coll L left ss) (hl : ∀ l, left l = false) : ss.Perm L := by
  obtain ⟨rs, hp, hr⟩ := h
  cases rs with
  | nil => simpa using hp
  | cons n r =>
    have := (hr (kl n.p)).2 ⟨n, by simp, rfl⟩
    rw [hl] at this
    cases this
theorem grown_new {w W3 W4 : World} (h : w.grownBy W3 none) (k : W3.grownBy W4 (some w.heap.size)) : w.grownBy W4 none :=
  ⟨k.os.trans h.os, k.tape.trans h.tape, k.output.trans h.output, Nat.le_trans h.size k.size, fun i hi hne => (k.block i (Nat.lt_of_lt_of_le hi h.size) (fun e => by cases e; omega)).trans (h.block i hi (by simp))⟩
def encN (n : En) : Array Value := #[eV n]
theorem vals_any (mb : Nat) (w : World) : Calls Try.prog 46 #[.map (some mb)] w fun e w' => e = .returned (.func (.func 63) #[] #[.pointer (some ⟨w.heap.size, 0, none⟩)]) ∧ w' = w.alloc (.cells #[.map (some mb)] 67) := by
  have hmf : ∀ (fn : Fn) (first cap : Array Value) (w : World), (Instr.makeFunc fn first cap).run Try.prog w = .ok (.func fn first cap) w := fun _ _ _ _ => rfl
  go_enter Try.func46, Try.ntmps46
  go_wp2
  go_ret
  exact ⟨rfl, rfl⟩
attribute [local go_sem] Oper.semAt_some
set_option maxRecDepth 100000 in
set_option maxHeartbeats 4000000 in
theorem vals_stops (k : Nat) (hk : 1 ≤ k) (Bm mb : Nat) (L : List En) (w : World) (h1 : Bm < w.heap.size) (c1 : w.cell? ⟨Bm, 0, none⟩ = some (.map (some mb))) (hm : Mp mE w mb L) :
    SeqStopsK Fence.wide k Try.prog 63 #[.pointer (some ⟨Bm, 0, none⟩)] encN KeepsWalks (fun xs => xs.Perm L) (fun pre => ∃ rs, (pre ++ rs).Perm L) L.length w := fun l J Jx W hbw hJ hJx hY h0 => by
  have k1 : W.cell? ⟨Bm, 0, none⟩ = some (.map (some mb)) := (hbw.cell (p := ⟨Bm, 0, none⟩) h1).trans c1
  have kv : Mp mE W mb L := hm.below hbw hm.lt
  obtain ⟨D, hown, hsz, hhas, hat⟩ := kv.ex
  have hwf : ∀ n ∈ L, wfQ n.p := kv.wf
  have hnd : (L.map En.p).Nodup := kv.nd
  replace hat : ∀ n ∈ L, ∀ z, D.atKey (kl n.p) z = .held (eV n) := hat
  replace hhas : ∀ l : Lit, Go.Maps.has D l = true ↔ ∃ n ∈ L, kl n.p = l := hhas
  clear hm c1 hbw
  refine callsIn_of_wp Try.func63 rfl trivial ?_ rfl
  simp only [Try.ntmps63, List.size_toArray, List.length_cons, List.length_nil, Nat.reduceAdd, Nat.reduceSub, Array.replicate_succ, Array.replicate_zero, List.push_toArray, List.append_toArray, List.nil_append, List.cons_append]
  gi_wp2_with (first
    | (gi_at_range; refine wpListIn_range_own _ rfl _ 67 rfl 34 36 keyLaw Try.underlying67 elV mb L.length D rfl hown ?_; intro w0 hrg0 hg0 hs0)
    | gi_in)
  go_frame
  gi_loopw [4] (fun _ wr => ∃ (left : Lit → Bool) (cnt : Nat) (ss : List En), wr.ranges Try.prog 34 elV mb W.heap.size L.length D left cnt ∧ Coll L left ss ∧ J ss wr)
    (fun _ wr => wr.rangeLeft mb W.heap.size)
  case atStart =>
    exact ⟨_, _, [], hrg0, ⟨L, by simp, hhas⟩, hJ [] W w0 none h0 hg0 (fun r e => by cases e)⟩
  case round =>
    obtain ⟨left, cnt, ss, hrg, hC, hJs⟩ := hrel
    gi_wp2_with (first
      | (gi_at_next; refine wpListIn_next_ranges _ rfl _ rfl 34 keyLaw elV id id (fun key _ _ => ⟨key, rfl⟩) (fun v _ _ => ⟨v, rfl⟩) mb W.heap.size L.length _ _ _ rfl hrg ?_ ?_)
      | gi_in)
    · intro hc0 hl0
      gi_wp2
      go_end0
      exact ⟨⟨_, rfl⟩, .inl ⟨ss, hC.done hl0, hJs⟩⟩
    · intro x c kx yd yp w2 cnt2 hkey hlk hv hat2 hrg2 hlt hg2 hs2 hen
      obtain ⟨n, hnL, rfl, hC2⟩ := hC.step hwf hnd hlk
      obtain rfl : eV n = c := by
        have e := hat2 (.held (eV n))
        rw [hat n hnL] at e
        have hv' : some (DataW.held c, ([] : List MemPlace)) = some (yd, yp) := hv
        cases hv'
        injection e
      have hJ2 : J ss w2 := hJ ss wr w2 (some W.heap.size) hJs hg2 (fun r e => by cases e; exact ⟨Nat.le_refl _, hrg.iter_walk⟩)
      have hlen : ss.length < L.length := by
        obtain ⟨rs, hp, _⟩ := hC2
        have := hp.length_eq
        simp at this
        omega
      have hY2 := fun W1 h => hY ss n W1 h hlen
      clear hY hs2 hlen hat hat2 hhas hv hlk hkey
      gi_wp2_with (first
        | (have kk := r4; refine ldNi (.tmp 4) rfl rfl _ _ n rfl r4.range ?_)
        | (have kk := r3; refine stNi (.tmp 4) (.tmp 10) rfl rfl _ n _ rfl rfl r3 ?_; intro W4 g4 r4; have g24 := grown_new g3 g4; have hJ4 := hJ ss w2 W4 none hJ2 g24 (fun r e => by cases e); have hrg4 := hrg2.kept g24 (by simp) (by simp); obtain ⟨fn, tmps, assign, body, hy, hR⟩ := hY2 W4 hJ4; simp only [encN] at hy)
        | (refine alNi rfl rfl ?_; intro W3 g3 r3)
        | gi_in)
      refine hR.mono ?_
      have HC : Hid (Coll L (fun z => left z && !z.sameKey (kl n.p)) (ss ++ [n])) := hC2
      rintro e W5 (⟨rfl, hJ5, hk5⟩ | ⟨rfl, hJx5⟩)
      · gi_wp2
        have hrg5 := hrg4.of_walks hk5
        go_roundw
        case rel => exact ⟨_, cnt2, ss ++ [n], hrg5, HC.out, hJ5⟩
        case measure => rw [hrg5.left_eq, hrg.left_eq]; exact hlt
      · gi_wp2
        refine bodyPost_ret (results_none rfl _ _ _) rfl ?_
        obtain ⟨rs, hp, _⟩ := HC.out
        exact ⟨⟨_, rfl⟩, .inr ⟨_, ⟨rs, hp⟩, hJx5⟩⟩
section
variable {F : Fence} {k : Nat} {ops : Array Oper} {rest : List Oper} {op : Oper} {a : Act} {w : World} {Q : Exit → Act → World → Prop}
theorem bsNi (x : Operand) (n : En) (hg : op.guard = none) (ho : op.op = .buildSlice 22 1 #[(0, x)]) (hx : a.eval x = eV n)
    (h : ∀ W, Row W w.heap.size 36 (ecs n) → Below w.heap.size w W → w.grownBy W none → wpListIn F k Try.prog ops Q rest (a.put op.dst (.slice (some ⟨w.heap.size, 0, none⟩) 1 1)) W) : wpListIn F k Try.prog ops Q (op :: rest) a w := by
  refine wpListIn_plain hg fun K' hK' => ?_
  unfold Oper.wpIn
  refine ⟨by simp [Oper.about, ho], ?_⟩
  rw [Oper.semAt_plain F _ _ (by rw [ho]; intro c hc'; cases hc')]
  unfold execOp
  simp only [ho, List.map_toArray, List.map_cons, List.map_nil, hx, Sem.run_bind, bsN1, Result.andThen_ok, Sem.run_pure]
  exact hK' _ _ (h _ (Row.new w _ _) (ba w _) (World.grownBy_alloc w _ none))
end
theorem kept_rowN {W W' : World} {B : Nat} {t : TypeId} {cs : List Value} {row : Option Nat} (h : Row W B t cs) (hg : W.grownBy W' row) (hr : ∀ r, row = some r → ∃ o : Obj, W.heap[r]? = some o ∧ o.isCells = false) : Row W' B t cs := by
  refine (hg.block B h.lt ?_).trans h
  intro e
  obtain ⟨o, h1, h2⟩ := hr B e.symm
  have h3 : some o = some (Obj.cells cs.toArray t (0, 0)) := h1.symm.trans h
  cases h3
  cases h2
theorem own_keptN {α : Type} {kd : Kd α} {W W' : World} {B : Nat} {v : Value} {l : List α} {row : Option Nat} (ho : kd.Own W B v l) (hg : W.grownBy W' row) (hr : ∀ r, row = some r → ∃ o : Obj, W.heap[r]? = some o ∧ o.isCells = false) : kd.Own W' B v l := by
  refine World.ownsRow.kept ho hg ?_
  rcases ho.2 with ⟨rfl, _⟩ | ⟨g, cap, cur, rfl, _, hgb, _⟩
  · exact .inl rfl
  · refine .inr fun e => ?_
    obtain ⟨o, h1, h2⟩ := hr g e.symm
    rw [hgb] at h1
    cases h1
    cases h2
/-- What the rounds keep. -/
def SeqI (w : World) (pre : List En) (W : World) : Prop := ∃ v, Row W w.heap.size 22 [v] ∧ kE.Own W (w.heap.size + 1) v pre ∧ Below w.heap.size w W ∧ w.heap.size + 1 ≤ W.heap.size
theorem SeqI.kept {w W W' : World} {pre : List En} {row : Option Nat} (h : SeqI w pre W) (hg : W.grownBy W' row) (hr : ∀ r, row = some r → w.heap.size ≤ r ∧ ∃ o : Obj, W.heap[r]? = some o ∧ o.isCells = false) : SeqI w pre W' := by
  obtain ⟨v, i5, i6, i8, i9⟩ := h
  have k : ∀ r, row = some r → ∃ o : Obj, W.heap[r]? = some o ∧ o.isCells = false := fun r e => (hr r e).2
  exact ⟨v, kept_rowN i5 hg k, own_keptN i6 hg k, below_keepO i8 hg (fun g hgl e => by have := (hr g e).1; omega) i8.size, Nat.le_trans i9 hg.size⟩
def actN (w : World) (Bm g : Nat) (x : En) : Act := { tmps := #[.slice none 0 0, .func (.func 63) #[] #[.pointer (some ⟨Bm, 0, none⟩)], .pointer (some ⟨w.heap.size, 0, none⟩), undef, .slice none 0 0, .pointer (some ⟨g, 0, none⟩), .func (.func 63) #[] #[.pointer (some ⟨Bm, 0, none⟩)], eV x, undef, undef, undef, undef, undef], defers := [] }
set_option maxRecDepth 100000 in
set_option maxHeartbeats 4000000 in
theorem appseq_any (Bm mb : Nat) (L : List En) (w : World) (hL : L.length ≤ 1000000) (h1 : Bm < w.heap.size) (c1 : w.cell? ⟨Bm, 0, none⟩ = some (.map (some mb))) (hm : Mp mE w mb L) :
    Calls Try.prog 71 #[.slice none 0 0, .func (.func 63) #[] #[.pointer (some ⟨Bm, 0, none⟩)]] w fun e w' => ∃ r xs, e = .returned r ∧ xs.Perm L ∧ kE.Own w' (w.heap.size + 1) r xs ∧ Below w.heap.size w w' := by
  refine (callsIn_wide (n := 9)).1 ?_
  refine callsIn_of_wp_marks Try.func71 rfl trivial ?_ rfl
  simp only [Try.ntmps71, List.size_toArray, List.length_cons, List.length_nil, Nat.reduceAdd, Nat.reduceSub, Array.replicate_succ, Array.replicate_zero, List.push_toArray, List.append_toArray, List.nil_append, List.cons_append]
  gi_wp2
  refine name_world (R := fun W => Code.wpIn _ _ _ _ _ _ W) (P := fun W => Row W w.heap.size 22 [.slice none 0 0] ∧ Below w.heap.size w W) _ ⟨Row.new w 22 [.slice none 0 0], ba _ _⟩ ?_
  rintro W0 ⟨r0, hB0⟩
  have k1 : W0.cell? ⟨Bm, 0, none⟩ = some (.map (some mb)) := (hB0.cell (p := ⟨Bm, 0, none⟩) h1).trans c1
  have kv : Mp mE W0 mb L := hm.below hB0 hm.lt
  have z0 := hB0.size
  have z1 := r0.lt
  refine wpIn_rangeFunc_ownH (F := Fence.wide) rfl (by decide) (gf := 63) (lb := #[.pointer (some ⟨Bm, 0, none⟩)]) rfl trivial (enters_of Try.func63 (by kernel_rfl) rfl)
    (vals_stops 8 (by decide) Bm mb L W0 (by omega) k1 kv) (fun h k => h.trans k) (fun W l o o' _ h _ hw => KeepsWalks.putObj o' h hw) (Below.refl _ _) (fun _ => rfl)
    (SeqI w)
    (fun _ _ _ => False)
    (fun pre A B row hs hg hr => hs.kept hg (fun r e => ⟨Nat.le_trans hB0.size (hr r e).1, (hr r e).2⟩))
    (fun c pre A B row hs hg hr => hs)
    ⟨.slice none 0 0, r0, World.ownsRow_nil _ _ _ _, hB0, z1⟩
    (fun x a' W => ∃ g, Row W g 36 (ecs x) ∧ a' = actN w Bm g x)
    (fun x a' _ A B row hs hg hr => by
      obtain ⟨g, hr0, e⟩ := hs
      exact ⟨g, kept_rowN hr0 hg (fun r e => (hr r e).2), e⟩) ?assign ?body ?done ?stop
  case assign =>
    intro l pre x W K hI hK
    unfold encN
    simp only [List.zip_toArray, List.zip_cons_cons, List.zip_nil_right, List.zip_nil_left, List.size_toArray, List.length_cons, List.length_nil, List.foldl_toArray', List.foldl_toArray, List.foldl_cons, List.foldl_nil, List.setIfInBounds_toArray, List.set_cons_succ, List.set_cons_zero]
    gi_wp2_with (first
      | (have kk := r3; refine stNi (.tmp 5) (.tmp 7) rfl rfl _ x _ rfl rfl r3 ?_; intro W4 g4 r4)
      | (refine alNi rfl rfl ?_; intro W3 g3 r3)
      | gi_in)
    have g24 := grown_new g3 g4
    exact hK _ _ (KeepsFrom.of_grownBy g24 (fun j e => by cases e)) (KeepsWalks.of_grownBy g24 (fun j o e => by cases e)) (hI.kept g24 (fun r e => by cases e)) ⟨_, r4, rfl⟩
  case body =>
    rintro l pre x a' W hll hlr ⟨v, i5, i6, i8, i9⟩ ⟨g, rg, rfl⟩ hlen
    obtain ⟨va, vc, rfl, _⟩ := Kd.own_at i6
    have c5 : W.cell? ⟨w.heap.size, 0, none⟩ = some (.slice va pre.length vc) := i5.cell 0
    obtain ⟨i0, hi, hz0, hz1, hz2⟩ := info_parts kE.info
    unfold actN
    clear c1 hm k1 kv r0 hlr
    gi_wp2_with (first
      | (have kk := r9; gi_at_builtin; (refine wpListIn_append_own _ rfl _ _ 22 rfl (w.heap.size + 1) 36 i0 (.agg (ecs zeroE).toArray) 51 72 Try.underlying22 hi hz0 hz1 hz2 (by simp [Value.cells, ecs_len]) (by decide) _ _ _ rfl o9 ⟨W.heap.size, 0, none⟩ 1 1 (ecs x) rfl (by rw [ecs_len]) (fun j u hj => by rw [Addr.add_mid, Nat.zero_add]; exact (r9.cell j).trans hj) (ecs_one x) (by unfold maxLen; omega) (by omega) (Nat.le_trans i9 b9.size) ?_); intro v' w3 hown' hgrow _; obtain ⟨g', cap', rfl⟩ := ownsRow_succ hown'; have m5 := (i5.below b9 i5.lt).keepO hgrow (own_ne_lt o9 (by omega)); have c5' : w3.cell? ⟨w.heap.size, 0, none⟩ = some (.slice va pre.length vc) := m5.cell 0; have f5' := m5.frozen 0)
      | (refine bsNi (.tmp 9) x rfl rfl rfl ?_; intro W9 r9 b9 g9; have o9 : W9.ownsRow (w.heap.size + 1) 36 51 (.slice va pre.length vc) pre.length (kE.cs pre) := own_below i6 b9)
      | (refine ldNi (.tmp 5) rfl rfl _ _ x rfl rg.range ?_)
      | gi_in)
    have hKO : ∀ (j : Nat) (o : Obj), (Value.slice va pre.length vc).ownBlock = some j → W9.heap[j]? = some o → o.isCells = true ∧ o.isWalk = false := fun j o ej hj => by
      rcases o9.2 with ⟨e, _⟩ | ⟨g0, cap, cur, e, _, hgb, _⟩
      · rw [e] at ej; cases ej
      · rw [e] at ej
        simp only [Value.ownBlock, Option.some.injEq] at ej
        subst ej
        rw [hgb] at hj
        cases hj
        exact ⟨rfl, rfl⟩
    have bw : Below w.heap.size W w3 := below_keepO (b9.mono (by omega)) hgrow (fun g hg => own_ne_lt o9 (by omega)) (by have := b9.size; omega)
    refine ⟨((KeepsOthers.of_grownBy g9 (fun j o e => by cases e)).trans ((KeepsOthers.of_grownBy hgrow (fun j o e h => (hKO j o e h).1)).trans (KeepsOthers.setCell _ _ _))).from _, (KeepsWalks.of_grownBy g9 (fun j o e => by cases e)).trans ((KeepsWalks.of_grownBy hgrow (fun j o e h => (hKO j o e h).2)).trans (KeepsWalks.setCell _ _ _)), _, m5.set 0 _, ?_, ?_, ?_⟩
    · have h4 : kE.Own w3 (w.heap.size + 1) (.slice (some ⟨g', 0, none⟩) (pre.length + 1) cap') (pre ++ [x]) := by
        unfold Kd.Own
        rw [kE.cs_append, List.length_append, show kE.cs [x] = ecs x by simp [Kd.cs, kE]]
        exact hown'
      exact World.ownsRow.kept h4 (grownBy_setCell w3 w.heap.size 0 _) (Or.inr (own_ne_lt h4 (by omega)))
    · exact grown_below (grownBy_setCell w3 w.heap.size 0 _) (i8.trans bw) (Nat.le_refl _) (by have := i8.size; have := bw.size; omega)
    · have := (grownBy_setCell w3 w.heap.size 0 (.slice (some ⟨g', 0, none⟩) (pre.length + 1) cap')).size
      have := bw.size
      omega
  case done =>
    rintro D xs W hD hS ⟨v, i5, i6, i8, i9⟩ hK
    obtain ⟨va, vc, rfl, _⟩ := Kd.own_at i6
    have c5 : W.cell? ⟨w.heap.size, 0, none⟩ = some (.slice va xs.length vc) := i5.cell 0
    gi_wp2
    have kk := grownBy_putObj' W D (.deferred none)
    have k : ∀ r, some D = some r → ∃ o : Obj, W.heap[r]? = some o ∧ o.isCells = false := fun r e => by cases e; exact ⟨_, hK, rfl⟩
    refine ⟨by simp, .inl ⟨_, _, rfl, run_takeDeferred hK, ?_⟩⟩
    exact ⟨_, results_tmp rfl _ _ _, _, xs, rfl, hS, own_keptN i6 kk k, grown_below kk i8 (by omega) i8.size⟩
  case stop =>
    rintro D c pre W hD hpre hf hK
    exact hf.elim
theorem collect_any (Bm mb : Nat) (L : List En) (w : World) (hL : L.length ≤ 1000000) (h1 : Bm < w.heap.size) (c1 : w.cell? ⟨Bm, 0, none⟩ = some (.map (some mb))) (hm : Mp mE w mb L) :
    Calls Try.prog 61 #[.func (.func 63) #[] #[.pointer (some ⟨Bm, 0, none⟩)]] w fun e w' => ∃ r xs, e = .returned r ∧ xs.Perm L ∧ kE.Own w' (w.heap.size + 1) r xs ∧ Below w.heap.size w w' := by
  have hA := appseq_any Bm mb L w hL h1 c1 hm
  clear hm c1 h1
  go_enter Try.func61, Try.ntmps61
  go_wp2_with (go_at_call 71; refine hA.mono ?_; rintro e w1 ⟨r, xs, rfl, hp, hO, hB⟩; obtain ⟨va, vc, rfl, _⟩ := Kd.own_at hO)
  go_ret
  exact ⟨_, _, rfl, hp, hO, hB⟩
end Go.Proofs.Ytiihlgcafppehaa
