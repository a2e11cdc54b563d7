/-
  What the calls of RequestOnce answer.
-/
import Derived.Test.YtbjclphgabpgoaaRL
import Derived.Test.YtbjclphgabpgoaaRH
import Derived.Test.YtbjclphgabpgoaaArgs
import Derived.Test.YtbjclphgabpgoaaEv
namespace Go.Proofs.Ytbjclphgabpgoaa
open Go.RowKit Go.Maps Go.Shelf
set_option linter.unusedSimpArgs false
set_option linter.unusedVariables false
set_option maxRecDepth 20000
theorem run_neqQ (p q : Pr) (w : World) : (binOp .neq 38 (Value.agg (qcells p).toArray) (Value.agg (qcells q).toArray)).run Try.prog w = .ok (.bool (!qB p q)) w := by
  have h := eqQ 9996 p q w
  rw [run_neq_struct w, h]; rfl
theorem qB_refl (p : Pr) : qB p p = true := qB_iff.2 rfl
theorem bsQ1 (p : Pr) (w : World) : (Instr.buildSlice 82 1 #[(0, (Value.agg (qcells p).toArray))]).run Try.prog w = .ok (.slice (some ⟨w.heap.size, 0, none⟩) 1 1) (w.alloc (.cells (qcells p).toArray 38)) := by
  induction p using Pr.lits with | h =>
  show _ = _
  kernel_rfl
theorem qs_one {w : World} {g : Nat} {p : Pr} (h : Row w g 38 (qcells p)) : QsW w (some ⟨g, 0, none⟩) [p] := by
  refine ⟨.inr ⟨g, 0, rfl, ⟨_, _, _, h⟩, fun j q hq => ?_⟩⟩
  cases j with
  | zero =>
    cases hq
    exact h.range
  | succ j => cases hq
theorem list_len {w : World} {t mb : Nat} {most : Int} {L : List Sr} (h : Tb w t mb most L) : Calls Try.prog 25 #[.pointer (some ⟨t, 0, none⟩)] w fun e w' => ∃ a c, e = .returned (.slice a L.length c) ∧ Below w.heap.size w w' := by
  refine (list_any h).mono ?_
  rintro e w' ⟨r, c, K, rfl, hp, _, hO, hB⟩
  exact ⟨r, c, by rw [hp.length_eq], hB⟩
theorem askL_mem {most : Int} {L : List Sr} {now : Int} {p : Pr} {i : Id8} {s : Int} {x : Sr} (h : x ∈ askL most L now p i s) : x ∈ L ∨ x = newR now p i s := by
  unfold askL at h
  split at h
  · rcases mem_putN.1 h with h | ⟨h, _⟩
    · exact .inr h
    · exact .inl h
  · exact .inl h
theorem askL_len {most : Int} {L : List Sr} {now : Int} {p : Pr} {i : Id8} {s : Int} : (askL most L now p i s).length ≤ L.length + 1 := by
  unfold askL
  split
  · exact putN_le
  · omega
/-- The table behind one act of the law's first loop. -/
def onS (p : Pr) (L : List Sr) (a : Ac) : List Sr := if a.k = 0 ∧ qB a.p p = false then askL 151 L 0 a.p a.i a.s else L
def onR (p : Pr) (l : List Ac) : List Sr := l.foldl (onS p) []
structure OnI (p : Pr) (j : Nat) (L : List Sr) : Prop where
  ll : L.length ≤ j
  np : ∀ n ∈ L, ¬ n.p = p
theorem OnI.step {p : Pr} {j : Nat} {L : List Sr} (h : OnI p j L) (a : Ac) : OnI p (j + 1) (onS p L a) := by
  unfold onS
  split
  · rename_i hk
    refine ⟨Nat.le_trans askL_len (Nat.succ_le_succ h.ll), fun n hn => ?_⟩
    rcases askL_mem hn with h1 | rfl
    · exact h.np n h1
    · intro e
      have e1 : a.p = p := e
      rw [qB_iff.2 e1] at hk
      cases hk.2
  · exact ⟨Nat.le_succ_of_le h.ll, h.np⟩
theorem onR_take {p : Pr} {l : List Ac} {j : Nat} (hj : j < l.length) : onR p (l.take (j + 1)) = onS p (onR p (l.take j)) l[j] := by
  unfold onR
  rw [List.take_succ_eq_append_getElem hj, List.foldl_append]
  rfl
theorem onR_ok {p : Pr} {l : List Ac} : ∀ j, j ≤ l.length → OnI p j (onR p (l.take j))
  | 0, _ => ⟨by simp [onR], by simp [onR]⟩
  | j + 1, hj => by
    rw [onR_take (by omega)]
    exact (onR_ok j (by omega)).step _
theorem key_np {L : List Sr} {p : Pr} (h : ∀ n ∈ L, ¬ n.p = p) (i : Id8) {n : Sr} (hn : n ∈ L) : keyB p i n = false := by
  cases hk : keyB p i n with
  | false => rfl
  | true => exact absurd (keyB_iff.1 hk).1 (h n hn)
theorem get_np {L : List Sr} {p : Pr} (h : ∀ n ∈ L, ¬ n.p = p) (i : Id8) : getN L p i = none :=
  List.find?_eq_none.2 fun n hn => by rw [key_np h i hn]; simp
theorem put_np {L : List Sr} {p : Pr} {i : Id8} (h : ∀ n ∈ L, ¬ n.p = p) {n : Sr} (hp : n.p = p) (hi : n.id = i) : putN L n = L ++ [n] := by
  unfold putN
  rw [if_neg]
  intro hc
  obtain ⟨m, hm, hk⟩ := List.any_eq_true.1 hc
  exact absurd ((keyB_iff.1 hk).1.trans hp) (h m hm)
theorem get_app {L : List Sr} {p : Pr} {i : Id8} (h : ∀ n ∈ L, ¬ n.p = p) {n : Sr} (hp : n.p = p) (hi : n.id = i) : getN (L ++ [n]) p i = some n := by
  unfold getN
  rw [List.find?_append, show List.find? (keyB p i) L = none from get_np h i]
  show List.find? (keyB p i) [n] = _
  rw [List.find?_cons, keyB_iff.2 ⟨hp, hi⟩]
theorem del_app {L : List Sr} {p : Pr} {i : Id8} (h : ∀ n ∈ L, ¬ n.p = p) {n : Sr} (hp : n.p = p) (hi : n.id = i) : delN (L ++ [n]) p i = L := by
  unfold delN
  rw [List.filter_append, List.filter_eq_self.2 (fun m hm => by rw [key_np h i hm]; rfl)]
  simp [keyB_iff.2 ⟨hp, hi⟩]
theorem in_np {L : List Sr} {p : Pr} (h : ∀ n ∈ L, ¬ n.p = p) {n : Sr} (hn : n ∈ L) : inQ [p] n.p = false := by
  cases hk : inQ [p] n.p with
  | false => rfl
  | true =>
    have := inQ_iff.1 hk
    simp at this
    exact absurd this (h n hn)
theorem fg_app {L : List Sr} {p : Pr} (h : ∀ n ∈ L, ¬ n.p = p) {n : Sr} (hp : n.p = p) : fgN (L ++ [n]) [p] = 1 ∧ fgL (L ++ [n]) [p] = L := by
  have hn : inQ [p] n.p = true := inQ_iff.2 (by simp [hp])
  unfold fgN fgL
  constructor
  · rw [List.filter_append, List.filter_eq_nil_iff.2 (fun m hm => by rw [in_np h hm]; simp)]
    simp [hn]
  · rw [List.filter_append, List.filter_eq_self.2 (fun m hm => by rw [in_np h hm]; rfl)]
    simp [hn]
theorem less_self' (s : Int) : Sn.lessB s s = false := by unfold Sn.lessB; simp
theorem less_back (s : Int) : Sn.lessB s (IntKind.u16.wrap (s - 1)) = false := by
  rw [Sn.wrap16]
  unfold Sn.lessB
  rw [Bool.and_eq_false_iff]
  right
  rw [decide_eq_false_iff_not]
  omega
theorem ne_back (s : Int) (h0 : 0 ≤ s) (h1 : s < 65536) : (IntKind.u16.wrap (s - 1) == s) = false := by
  rw [Sn.wrap16, beq_eq_false_iff_ne]
  omega
theorem wrap_bd (z : Int) : 0 ≤ IntKind.u16.wrap z ∧ IntKind.u16.wrap z < 65536 := by rw [Sn.wrap16]; omega
section
variable {W : World} {t mb : Nat} {L : List Sr} {p : Pr} {i : Id8} {s : Int}
/-- The first Ask, and the last one. -/
theorem on_ask (h : Tb W t mb 151 L) (hI : OnI p 150 L) (hp : wfQ p) (now : Int) (t0 : 0 ≤ now) (t1 : now ≤ 10) (z : Int) (z0 : 0 ≤ z) (z1 : z < 65536) :
    Calls Try.prog 13 #[.pointer (some ⟨t, 0, none⟩), .int .i64 now, (Value.agg (qcells p).toArray), idV i, .int .u16 z] W fun e w' => e = .returned (.tuple #[.bool true, .int .i64 0]) ∧ Turn W w' t mb 151 (L ++ [newR now p i z]) := by
  have hl := hI.ll
  refine (ask_any h now p i z hp t0 (by omega) z0 z1 (by omega)).mono ?_
  rintro e w' ⟨rfl, hT⟩
  have hg := get_np hI.np i
  have hb : askB 151 L p i z = true := by unfold askB; rw [hg]; exact decide_eq_true (by omega)
  have he : askE 151 L p i = 0 := by unfold askE; rw [hg]; show (if (151 : Int) ≤ (L.length : Int) then (6 : Int) else 0) = 0; rw [if_neg (by omega)]
  have hL : askL 151 L now p i z = L ++ [newR now p i z] := by unfold askL; rw [hb, if_pos rfl]; exact put_np (i := i) hI.np rfl rfl
  rw [hb, he]
  rw [hL] at hT
  exact ⟨rfl, hT⟩
/-- An Ask in vain. -/
theorem on_vain {now0 : Int} (h : Tb W t mb 151 (L ++ [newR now0 p i s])) (hI : OnI p 150 L) (hp : wfQ p) (now : Int) (t0 : 0 ≤ now) (t1 : now ≤ 10) (z : Int) (z0 : 0 ≤ z) (z1 : z < 65536) (hv : Sn.lessB s z = false) :
    Calls Try.prog 13 #[.pointer (some ⟨t, 0, none⟩), .int .i64 now, (Value.agg (qcells p).toArray), idV i, .int .u16 z] W fun e w' => e = .returned (.tuple #[.bool false, .int .i64 0]) ∧ Turn W w' t mb 151 (L ++ [newR now0 p i s]) := by
  have hl := hI.ll
  refine (ask_any h now p i z hp t0 (by omega) z0 z1 (by rw [List.length_append, List.length_singleton]; omega)).mono ?_
  rintro e w' ⟨rfl, hT⟩
  have hg := get_app (n := newR now0 p i s) (p := p) (i := i) hI.np rfl rfl
  have hb : askB 151 (L ++ [newR now0 p i s]) p i z = false := by unfold askB; rw [hg]; exact hv
  have he : askE 151 (L ++ [newR now0 p i s]) p i = 0 := by unfold askE; rw [hg]
  have hL : askL 151 (L ++ [newR now0 p i s]) now p i z = L ++ [newR now0 p i s] := by unfold askL; rw [hb]; rfl
  rw [hb, he]
  rw [hL] at hT
  exact ⟨rfl, hT⟩
/-- What does not meet it. -/
theorem on_unmet {now0 : Int} (h : Tb W t mb 151 (L ++ [newR now0 p i s])) (hI : OnI p 150 L) (hp : wfQ p) (a b : Int) (hv : Sn.Met a b s = false) :
    Calls Try.prog 16 #[.pointer (some ⟨t, 0, none⟩), (Value.agg (qcells p).toArray), idV i, dV a b] W fun e w' => e = .returned (.bool false) ∧ Turn W w' t mb 151 (L ++ [newR now0 p i s]) := by
  refine (met_any h p i a b hp).mono ?_
  rintro e w' ⟨rfl, hT⟩
  have hb : metB (L ++ [newR now0 p i s]) p i a b = false := by unfold metB; rw [get_app (n := newR now0 p i s) (p := p) (i := i) hI.np rfl rfl]; exact hv
  rw [hb]
  rw [show metL (L ++ [newR now0 p i s]) p i a b = L ++ [newR now0 p i s] by unfold metL; rw [hb]; rfl] at hT
  exact ⟨rfl, hT⟩
/-- What meets it. -/
theorem on_met {now0 : Int} (h : Tb W t mb 151 (L ++ [newR now0 p i s])) (hI : OnI p 150 L) (hp : wfQ p) (a b : Int) (hv : Sn.Met a b s = true) :
    Calls Try.prog 16 #[.pointer (some ⟨t, 0, none⟩), (Value.agg (qcells p).toArray), idV i, dV a b] W fun e w' => e = .returned (.bool true) ∧ Turn W w' t mb 151 L := by
  refine (met_any h p i a b hp).mono ?_
  rintro e w' ⟨rfl, hT⟩
  have hb : metB (L ++ [newR now0 p i s]) p i a b = true := by unfold metB; rw [get_app (n := newR now0 p i s) (p := p) (i := i) hI.np rfl rfl]; exact hv
  rw [hb]
  rw [show metL (L ++ [newR now0 p i s]) p i a b = L by unfold metL; rw [hb, if_pos rfl]; exact del_app hI.np rfl rfl] at hT
  exact ⟨rfl, hT⟩
theorem met_inf (s : Int) : Sn.Met s 65535 s = false := by unfold Sn.Met; simp
theorem met_back (s : Int) (h0 : 0 ≤ s) (h1 : s < 65536) : Sn.Met (IntKind.u16.wrap (s - 1)) 1 s = false := by
  unfold Sn.Met
  rw [ne_back s h0 h1, less_back]
  rfl
theorem met_self (s : Int) : Sn.Met s 1 s = true := by unfold Sn.Met; simp
theorem on_forget {n : Sr} {g : Nat} (h : Tb W t mb 151 (L ++ [n])) (hn : n.p = p) (hI : OnI p 150 L) (hp : wfQ p) (hr : Row W g 38 (qcells p)) :
    Calls Try.prog 18 #[.pointer (some ⟨t, 0, none⟩), .slice (some ⟨g, 0, none⟩) 1 1] W fun e w' => e = .returned (.int .i64 1) ∧ Turn W w' t mb 151 L := by
  refine (forget_any h (some ⟨g, 0, none⟩) 1 [p] (qs_one hr) (by simpa using hp) (by simp)).mono ?_
  rintro e w' ⟨rfl, hT⟩
  obtain ⟨h1, h2⟩ := fg_app hI.np hn
  rw [h1]
  rw [h2] at hT
  exact ⟨rfl, hT⟩
theorem on_list {n : Sr} {m : Nat} (h : Tb W t mb 151 (L ++ [n])) (hm : L.length = m) :
    Calls Try.prog 25 #[.pointer (some ⟨t, 0, none⟩)] W fun e w' => ∃ a c, e = .returned (.slice a (m + 1) c) ∧ Below W.heap.size W w' := by
  have := list_len h
  rwa [List.length_append, List.length_singleton, hm] at this
theorem on_list0 {m : Nat} (h : Tb W t mb 151 L) (hm : L.length = m) :
    Calls Try.prog 25 #[.pointer (some ⟨t, 0, none⟩)] W fun e w' => ∃ a c, e = .returned (.slice a m c) ∧ Below W.heap.size W w' := by
  have := list_len h
  rwa [hm] at this
end
end Go.Proofs.Ytbjclphgabpgoaa
