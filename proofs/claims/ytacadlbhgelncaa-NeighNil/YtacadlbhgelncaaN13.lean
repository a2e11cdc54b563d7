/-
  maps.Values of the neighbours: each comes once, in some order, for every body of a loop.
-/
import Derived.RangeFuncNested
import Derived.RangeFuncBound
import Derived.RangeFuncCalls
import Derived.RangeFuncLeaves
import Derived.RangeFuncKeeps
import Derived.RangeFuncSeq
import Derived.Shelf.Abstract
import Derived.Shelf.AbstractIn
import Derived.Shelf.RegionOpen
import Derived.Sort.MapsRangeIn
import Derived.WalkKit
import Derived.OwnWalkIn
import Derived.TacticsInMore
import Derived.RegionIn
import Derived.LoopNIn
import Derived.LoopIn
import Derived.Test.YtacadlbhgelncaaN12
namespace Go.Proofs.Ytacadlbhgelncaa
open Lk (Hi hcs hcs_one)
open Rk (Rt rcs rtV)
open Go.RowKit Go.Maps Go.Shelf
set_option linter.unusedSimpArgs false
set_option linter.unusedVariables false
section
variable {F : Fence} {k : Nat} {ops : Array Oper} {rest : List Oper} {op : Oper} {a : Act} {w : World} {Q : Exit → Act → World → Prop}
theorem ldNi (x : Operand) (hg : op.guard = none) (ho : op.op = .load 55 x) (b o : Nat) (n : Ng) (hx : a.eval x = .pointer (some ⟨b, o, none⟩)) (hc : w.rangeAt b o (ncs n))
    (h : wpListIn F k Try.prog ops Q rest (a.put op.dst (nV n)) w) : wpListIn F k Try.prog ops Q (op :: rest) a w := by
  refine wpListIn_plain hg fun K' hK' => ?_
  unfold Oper.wpIn
  refine ⟨by simp [Oper.about, ho], ?_⟩
  rw [Oper.semAt_plain F _ _ (by rw [ho]; intro c hc'; cases hc')]
  unfold execOp
  simp only [ho, hx, Instr.loadAt, Instr.sureAddr, Sem.run_bind, Sem.run_pure, Result.andThen_ok, run_loadVar_mid w b o _ (ncs n) _ hc Try.underlying55 rfl (by rw [infoNs, ncs_len])]
  exact hK' _ _ h
theorem alNi (hg : op.guard = none) (ho : op.op = .alloc 55)
    (h : ∀ W, w.grownBy W none → Row W w.heap.size 55 (ncs zeroN) → wpListIn F k Try.prog ops Q rest (a.put op.dst (.pointer (some ⟨w.heap.size, 0, none⟩))) W) : wpListIn F k Try.prog ops Q (op :: rest) a w := by
  refine wpListIn_plain hg fun K' hK' => ?_
  obtain ⟨i, hi, hz⟩ : ∃ i, Try.prog.info? 55 = some i ∧ i.zero = some (.agg (ncs zeroN).toArray) := by
    have hT := infoNz
    cases hq : Try.prog.info? 55 with
    | none => simp [hq] at hT
    | some i => exact ⟨i, rfl, by simpa [hq] using hT⟩
  unfold Oper.wpIn
  refine ⟨by simp [Oper.about, ho], ?_⟩
  rw [Oper.semAt_plain F _ _ (by rw [ho]; intro c hc'; cases hc')]
  unfold execOp
  simp only [ho, Sem.run_bind, run_alG hi hz, Result.andThen_ok, Sem.run_pure]
  exact hK' _ _ (h _ (World.grownBy_alloc w _ none) (Row.new w _ _))
theorem stNi (x y : Operand) (hg : op.guard = none) (ho : op.op = .store 55 x y) (b : Nat) (n u : Ng) (hx : a.eval x = .pointer (some ⟨b, 0, none⟩)) (hy : a.eval y = .agg (ncs n).toArray) (hr : Row w b 55 (ncs u))
    (h : ∀ W, w.grownBy W (some b) → Row W b 55 (ncs n) → wpListIn F k Try.prog ops Q rest (a.put op.dst undef) W) : wpListIn F k Try.prog ops Q (op :: rest) a w := by
  refine wpListIn_plain hg fun K' hK' => ?_
  have ht : w.there b 0 (ncs n).toArray.size := by simpa [ncs_len] using hr.there (n := 34) (by rw [ncs_len]; omega)
  have hr2 : Row (w.setCells b 0 (ncs n)) b 55 (ncs n) := by
    have := Row.setCells (ncs n) [] w (ncs u) hr (by rw [ncs_len, ncs_len])
    simpa using this
  unfold Oper.wpIn
  refine ⟨by simp [Oper.about, ho], ?_⟩
  rw [Oper.semAt_plain F _ _ (by rw [ho]; intro c hc'; cases hc')]
  unfold execOp
  simp only [ho, hx, hy, Instr.storeAt, Instr.sureAddr, Sem.run_bind, Sem.run_pure, Result.andThen_ok, run_storeVar_mid w b 0 _ _ ht (by rw [infoNs]; simp [ncs_len]) (all_oneCell_toArray (ncs_one n))]
  exact hK' _ _ (h _ (grownBy_setCells b _ _ _) hr2)
end
/-- What has come, and what is left. -/
def Coll (L : List Ng) (left : Lit → Bool) (ss : List Ng) : Prop := ∃ rs : List Ng, (ss ++ rs).Perm L ∧ ∀ l, left l = true ↔ ∃ n ∈ rs, kl n.i n.a = l
theorem Coll.step {L : List Ng} {left : Lit → Bool} {ss : List Ng} (h : Coll L left ss) (hw : ∀ n ∈ L, wfI n.i) (hd : (L.map keyN).Nodup) {l : Lit} (hl : left l = true) : ∃ n, n ∈ L ∧ kl n.i n.a = l ∧ Coll L (fun z => left z && !z.sameKey l) (ss ++ [n]) := by
  obtain ⟨rs, hp, hr⟩ := h
  obtain ⟨n, hn, rfl⟩ := (hr l).1 hl
  obtain ⟨r1, r2, rfl⟩ := List.append_of_mem hn
  have hL : ∀ m, m ∈ ss ++ (r1 ++ n :: r2) ↔ m ∈ L := fun m => hp.mem_iff
  have hnL : n ∈ L := (hL n).1 (by simp)
  refine ⟨n, hnL, rfl, r1 ++ r2, ?_, fun z => ?_⟩
  · refine List.Perm.trans ?_ hp
    rw [List.append_assoc]
    exact List.Perm.append_left ss (by simpa using (List.perm_middle (a := n) (l₁ := r1) (l₂ := r2)).symm)
  · have hnd : ((ss ++ (r1 ++ n :: r2)).map keyN).Nodup := (hp.map _).nodup_iff.2 hd
    have hne : ∀ m ∈ r1 ++ r2, kl m.i m.a ≠ kl n.i n.a := by
      intro m hm e
      have hmL : m ∈ L := (hL m).1 (by simp at hm ⊢; rcases hm with h | h <;> simp [h])
      obtain ⟨e1, e2⟩ := kl_inj (hw m hmL) (hw n hnL) e
      have ek : keyN m = keyN n := by unfold keyN; rw [e1, e2]
      rw [List.map_append, List.nodup_append] at hnd
      have h2 := hnd.2.1
      rw [List.map_append, List.map_cons] at h2
      have h3 := (List.perm_middle (a := keyN n) (l₁ := r1.map keyN) (l₂ := r2.map keyN)).nodup_iff.1 h2
      rw [List.nodup_cons] at h3
      apply h3.1
      rw [← ek, ← List.map_append]
      exact List.mem_map_of_mem hm
    rw [Bool.and_eq_true, hr]
    constructor
    · rintro ⟨⟨m, hm, rfl⟩, hs⟩
      refine ⟨m, ?_, rfl⟩
      rcases List.mem_append.1 hm with h | h
      · exact List.mem_append_left _ h
      · rcases List.mem_cons.1 h with rfl | h
        · rw [WideAt.sameKey_self (kl_key _ (hw m hnL))] at hs
          cases hs
        · exact List.mem_append_right _ h
    · rintro ⟨m, hm, rfl⟩
      refine ⟨⟨m, ?_, rfl⟩, ?_⟩
      · rcases List.mem_append.1 hm with h | h
        · exact List.mem_append_left _ h
        · exact List.mem_append_right _ (List.mem_cons_of_mem _ h)
      · rw [sameKey_ne (hne m hm)]; rfl
theorem Coll.done {L : List Ng} {left : Lit → Bool} {ss : List Ng} (h : Coll L left ss) (hl : ∀ l, left l = false) : ss.Perm L := by
  obtain ⟨rs, hp, hr⟩ := h
  cases rs with
  | nil => simpa using hp
  | cons n r =>
    have := (hr (kl n.i n.a)).2 ⟨n, by simp, rfl⟩
    rw [hl] at this
    cases this
theorem grown_new {w W3 W4 : World} (h : w.grownBy W3 none) (k : W3.grownBy W4 (some w.heap.size)) : w.grownBy W4 none :=
  ⟨k.os.trans h.os, k.tape.trans h.tape, k.output.trans h.output, Nat.le_trans h.size k.size, fun i hi hne => (k.block i (Nat.lt_of_lt_of_le hi h.size) (fun e => by cases e; omega)).trans (h.block i hi (by simp))⟩
def encN (n : Ng) : Array Value := #[nV n]
theorem vals_any (mb : Nat) (w : World) : Calls Try.prog 30 #[.map (some mb)] w fun e w' => e = .returned (.func (.func 52) #[] #[.pointer (some ⟨w.heap.size, 0, none⟩)]) ∧ w' = w.alloc (.cells #[.map (some mb)] 74) := by
  have hmf : ∀ (fn : Fn) (first cap : Array Value) (w : World), (Instr.makeFunc fn first cap).run Try.prog w = .ok (.func fn first cap) w := fun _ _ _ _ => rfl
  go_enter Try.func30, Try.ntmps30
  go_wp2
  go_ret
  exact ⟨rfl, rfl⟩
attribute [local go_sem] Oper.semAt_some
set_option maxRecDepth 100000 in
set_option maxHeartbeats 4000000 in
theorem vals_stops (k : Nat) (hk : 1 ≤ k) (Bm mb : Nat) (L : List Ng) (w : World) (h1 : Bm < w.heap.size) (c1 : w.cell? ⟨Bm, 0, none⟩ = some (.map (some mb))) (hm : Mp w mb L) :
    SeqStopsK Fence.wide k Try.prog 52 #[.pointer (some ⟨Bm, 0, none⟩)] encN KeepsWalks (fun xs => xs.Perm L) (fun pre => ∃ rs, (pre ++ rs).Perm L) L.length w := fun l J Jx W hbw hJ hJx hY h0 => by
  have k1 : W.cell? ⟨Bm, 0, none⟩ = some (.map (some mb)) := (hbw.cell (p := ⟨Bm, 0, none⟩) h1).trans c1
  have kv : Mp W mb L := hm.below hbw hm.lt
  obtain ⟨D, hown, hsz, hhas, hat⟩ := kv.ex
  have hwf := kv.wf
  have hnd := kv.nd
  clear hm c1 hbw
  refine callsIn_of_wp Try.func52 rfl trivial ?_ rfl
  simp only [Try.ntmps52, List.size_toArray, List.length_cons, List.length_nil, Nat.reduceAdd, Nat.reduceSub, Array.replicate_succ, Array.replicate_zero, List.push_toArray, List.append_toArray, List.nil_append, List.cons_append]
  gi_wp2_with (first
    | (gi_at_range; refine wpListIn_range_own _ rfl _ 74 rfl 85 55 keyLaw Try.underlying74 elV mb L.length D rfl hown ?_; intro w0 hrg0 hg0 hs0)
    | gi_in)
  go_frame
  gi_loopw [4] (fun _ wr => ∃ (left : Lit → Bool) (cnt : Nat) (ss : List Ng), wr.ranges Try.prog 85 elV mb W.heap.size L.length D left cnt ∧ Coll L left ss ∧ J ss wr)
    (fun _ wr => wr.rangeLeft mb W.heap.size)
  case atStart =>
    exact ⟨_, _, [], hrg0, ⟨L, by simp, hhas⟩, hJ [] W w0 none h0 hg0 (fun r e => by cases e)⟩
  case round =>
    obtain ⟨left, cnt, ss, hrg, hC, hJs⟩ := hrel
    gi_wp2_with (first
      | (gi_at_next; refine wpListIn_next_ranges _ rfl _ rfl 85 keyLaw elV id id (fun key _ _ => ⟨key, rfl⟩) (fun v _ _ => ⟨v, rfl⟩) mb W.heap.size L.length _ _ _ rfl hrg ?_ ?_)
      | gi_in)
    · intro hc0 hl0
      gi_wp2
      go_end0
      exact ⟨⟨_, rfl⟩, .inl ⟨ss, hC.done hl0, hJs⟩⟩
    · intro x c kx yd yp w2 cnt2 hkey hlk hv hat2 hrg2 hlt hg2 hs2 hen
      obtain ⟨n, hnL, rfl, hC2⟩ := hC.step hwf hnd hlk
      obtain rfl : nV n = c := by
        have e := hat2 (.held (nV n))
        rw [hat n hnL] at e
        have hv' : some (DataW.held c, ([] : List MemPlace)) = some (yd, yp) := hv
        cases hv'
        injection e
      have hJ2 : J ss w2 := hJ ss wr w2 (some W.heap.size) hJs hg2 (fun r e => by cases e; exact ⟨Nat.le_refl _, hrg.iter_walk⟩)
      have hlen : ss.length < L.length := by
        obtain ⟨rs, hp, _⟩ := hC2
        have := hp.length_eq
        simp at this
        omega
      have hY2 := fun W1 h => hY ss n W1 h hlen
      clear hY hs2 hlen hat hat2 hhas hv hlk hkey
      gi_wp2_with (first
        | (have kk := r4; refine ldNi (.tmp 4) rfl rfl _ _ n rfl r4.range ?_)
        | (have kk := r3; refine stNi (.tmp 4) (.tmp 10) rfl rfl _ n _ rfl rfl r3 ?_; intro W4 g4 r4; have g24 := grown_new g3 g4; have hJ4 := hJ ss w2 W4 none hJ2 g24 (fun r e => by cases e); have hrg4 := hrg2.kept g24 (by simp) (by simp); obtain ⟨fn, tmps, assign, body, hy, hR⟩ := hY2 W4 hJ4; simp only [encN] at hy)
        | (refine alNi rfl rfl ?_; intro W3 g3 r3)
        | gi_in)
      refine hR.mono ?_
      have HC : Hid (Coll L (fun z => left z && !z.sameKey (kl n.i n.a)) (ss ++ [n])) := hC2
      rintro e W5 (⟨rfl, hJ5, hk5⟩ | ⟨rfl, hJx5⟩)
      · gi_wp2
        have hrg5 := hrg4.of_walks hk5
        go_roundw
        case rel => exact ⟨_, cnt2, ss ++ [n], hrg5, HC.out, hJ5⟩
        case measure => rw [hrg5.left_eq, hrg.left_eq]; exact hlt
      · gi_wp2
        refine bodyPost_ret (results_none rfl _ _ _) rfl ?_
        obtain ⟨rs, hp, _⟩ := HC.out
        exact ⟨⟨_, rfl⟩, .inr ⟨_, ⟨rs, hp⟩, hJx5⟩⟩
end Go.Proofs.Ytacadlbhgelncaa
