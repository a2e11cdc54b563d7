/-
  What the calls of RequestEnds answer.
-/
import Derived.Test.YtbjclphgabpgoaaRL
import Derived.Test.YtbjclphgabpgoaaArgs
import Derived.Test.YtbjclphgabpgoaaEv
namespace Go.Proofs.Ytbjclphgabpgoaa
open Go.RowKit Go.Maps Go.Shelf
set_option linter.unusedSimpArgs false
set_option linter.unusedVariables false
set_option maxRecDepth 20000
theorem list_len {w : World} {t mb : Nat} {most : Int} {L : List Sr} (h : Tb w t mb most L) : Calls Try.prog 25 #[.pointer (some ⟨t, 0, none⟩)] w fun e w' => ∃ a c, e = .returned (.slice a L.length c) ∧ Below w.heap.size w w' := by
  refine (list_any h).mono ?_
  rintro e w' ⟨r, c, K, rfl, hp, _, hO, hB⟩
  exact ⟨r, c, by rw [hp.length_eq], hB⟩
theorem askL_le {most : Int} {L : List Sr} {now : Int} {p : Pr} {i : Id8} {s : Int} (h : (L.length : Int) ≤ most) : ((askL most L now p i s).length : Int) ≤ most := by
  unfold askL
  split
  · rename_i hb
    unfold askB at hb
    have hl := putN_len (L := L) (n := newR now p i s)
    cases hg : getN L p i with
    | some n =>
      obtain ⟨h1, h2, h3⟩ := getN_some hg
      have hc : L.any (keyB (newR now p i s).p (newR now p i s).id) = true := List.any_eq_true.2 ⟨n, h1, keyB_iff.2 ⟨h2, h3⟩⟩
      rw [hc, if_pos rfl] at hl
      omega
    | none =>
      rw [hg] at hb
      have := of_decide_eq_true hb
      split at hl <;> omega
  · exact h
theorem askL_len {most : Int} {L : List Sr} {now : Int} {p : Pr} {i : Id8} {s : Int} : (askL most L now p i s).length ≤ L.length + 1 := by
  unfold askL
  split
  · exact putN_le
  · omega
/-- The time and the table behind one act. -/
def ensS (most : Int) (x : Int × List Sr) (a : Ac) : Int × List Sr := (x.1 + a.g, if a.k = 0 then askL most x.2 (x.1 + a.g) a.p a.i a.s else x.2)
def ensR (most : Int) (l : List Ac) : Int × List Sr := l.foldl (ensS most) (30000, [])
structure EnI (most : Int) (j : Nat) (x : Int × List Sr) : Prop where
  t0 : 0 ≤ x.1
  t1 : x.1 ≤ 30000 + j * 1073741824
  ll : (x.2.length : Int) ≤ most
theorem EnI.step {most : Int} {j : Nat} {x : Int × List Sr} {a : Ac} (h : EnI most j x) (ha : AcOk a) : EnI most (j + 1) (ensS most x a) := by
  obtain ⟨a0, a1⟩ := ha
  have t0 := h.t0
  have t1 := h.t1
  refine ⟨?_, ?_, ?_⟩
  · show 0 ≤ x.1 + a.g; omega
  · show x.1 + a.g ≤ _; omega
  · show ((if a.k = 0 then askL most x.2 (x.1 + a.g) a.p a.i a.s else x.2).length : Int) ≤ most
    split
    · exact askL_le h.ll
    · exact h.ll
theorem ensR_take {most : Int} {l : List Ac} {j : Nat} (hj : j < l.length) : ensR most (l.take (j + 1)) = ensS most (ensR most (l.take j)) l[j] := by
  unfold ensR
  rw [List.take_succ_eq_append_getElem hj, List.foldl_append]
  rfl
theorem ensR_ok {most : Int} {l : List Ac} (hm : 0 ≤ most) (h : ∀ x ∈ l, AcOk x) : ∀ j, j ≤ l.length → EnI most j (ensR most (l.take j))
  | 0, _ => ⟨by simp [ensR], by simp [ensR], by simpa [ensR] using hm⟩
  | j + 1, hj => by
    rw [ensR_take (by omega)]
    exact (ensR_ok hm h j (by omega)).step (h _ (List.getElem_mem _))
/-- The request, sent once, twice, three and four times. -/
def en0 (p : Pr) (i : Id8) (s : Int) : Sr := ⟨p, i, s, 1, 2000⟩
def en1 (p : Pr) (i : Id8) (s : Int) : Sr := ⟨p, i, s, 2, 6000⟩
def en2 (p : Pr) (i : Id8) (s : Int) : Sr := ⟨p, i, s, 3, 14000⟩
def en3 (p : Pr) (i : Id8) (s : Int) : Sr := ⟨p, i, s, 4, 30000⟩
section
variable {W : World} {t mb : Nat} {most : Int} {L : List Sr} {p : Pr} {i : Id8} {s : Int}
theorem en_ask (h : Tb W t mb most []) (hm : 1 ≤ most) (hp : wfQ p) (z0 : 0 ≤ s) (z1 : s < 65536) :
    Calls Try.prog 13 #[.pointer (some ⟨t, 0, none⟩), .int .i64 0, (Value.agg (qcells p).toArray), idV i, .int .u16 s] W fun e w' => e = .returned (.tuple #[.bool true, .int .i64 0]) ∧ Turn W w' t mb most [en0 p i s] := by
  refine (ask_any h 0 p i s hp (by omega) (by omega) z0 z1 (by simp)).mono ?_
  rintro e w' ⟨rfl, hT⟩
  have hb : askB most [] p i s = true := decide_eq_true (by show (0 : Int) < most; omega)
  have he : askE most [] p i = 0 := by show (if most ≤ (0 : Int) then (6 : Int) else 0) = 0; rw [if_neg (by omega)]
  have hL : askL most [] 0 p i s = [en0 p i s] := by unfold askL; rw [hb, if_pos rfl]; rfl
  rw [hb, he]
  rw [hL] at hT
  exact ⟨rfl, hT⟩
theorem en_none (h : Tb W t mb most L) (now : Int) (ha : 0 ≤ now) (hb : now ≤ 562949953421312) (hl : L.length ≤ 100000) (hn : ∀ n ∈ L, now < n.t) :
    Calls Try.prog 20 #[.pointer (some ⟨t, 0, none⟩), .int .i64 now] W fun e w' => ∃ a1 c1 a2 c2, e = .returned (.tuple #[.slice a1 0 c1, .slice a2 0 c2]) ∧ Turn W w' t mb most L := by
  refine (tick_any h now ha hb hl).mono ?_
  rintro e w' ⟨a1, c1, a2, c2, K, hp, _, rfl, hT, hO⟩
  have e1 : L.filter (lateB now) = [] := List.filter_eq_nil_iff.2 fun n hm => by
    have := hn n hm
    unfold lateB
    simp
    omega
  rw [e1, List.perm_nil] at hp
  subst hp
  exact ⟨a1, c1, a2, c2, rfl, hT⟩
theorem en_again {n n' : Sr} (h : Tb W t mb most [n]) (now : Int) (ha : 0 ≤ now) (hb : now ≤ 562949953421312) (ht : n.t ≤ now) (hm : n.m ≠ 4) (he : sentR n now = n') :
    Calls Try.prog 20 #[.pointer (some ⟨t, 0, none⟩), .int .i64 now] W fun e w' => ∃ a1 c1 a2 c2, e = .returned (.tuple #[.slice a1 1 c1, .slice a2 0 c2]) ∧ Turn W w' t mb most [n'] := by
  subst he
  refine (tick_one h now ha hb ht hm).mono ?_
  rintro e w' ⟨g, c1, a2, c2, rfl, hT, _⟩
  exact ⟨_, c1, a2, c2, rfl, hT⟩
theorem en_gone {n : Sr} (h : Tb W t mb most [n]) (now : Int) (ha : 0 ≤ now) (hb : now ≤ 562949953421312) (ht : n.t ≤ now) (hm : n.m = 4) :
    Calls Try.prog 20 #[.pointer (some ⟨t, 0, none⟩), .int .i64 now] W fun e w' => ∃ a1 c1 a2 c2, e = .returned (.tuple #[.slice a1 0 c1, .slice a2 1 c2]) ∧ Turn W w' t mb most [] := by
  refine (tick_any h now ha hb (by simp)).mono ?_
  rintro e w' ⟨a1, c1, a2, c2, K, hp, _, rfl, hT, hO⟩
  have e1 : [n].filter (lateB now) = [n] := by simp [lateB, ht]
  rw [e1, List.perm_singleton] at hp
  subst hp
  have e2 : againR now [n] = [] := by simp [againR, moreB, hm]
  have e3 : goneR [n] = [n] := by simp [goneR, hm]
  have ks : keyB n.p n.id n = true := keyB_self n
  have e4 : tickR now [n] [n] = [] := by simp [tickR, tickS, hm, delN, ks]
  rw [e2, e3]
  rw [e4] at hT
  exact ⟨a1, c1, a2, c2, rfl, hT⟩
end
theorem bd4 (w : World) : (Instr.build 61 #[(0, .int .i64 2000), (1, .int .i64 6000), (2, .int .i64 14000), (3, .int .i64 30000)]).run Try.prog w = .ok (.agg #[.int .i64 2000, .int .i64 6000, .int .i64 14000, .int .i64 30000]) w := by kernel_rfl
/-- The table in a round of the law's first loop, and how often the request was sent. -/
def enL (p : Pr) (i : Id8) (s : Int) : Nat → List Sr
  | 0 => [en0 p i s]
  | 1 => [en1 p i s]
  | 2 => [en2 p i s]
  | 3 => [en3 p i s]
  | _ => []
def enN : Nat → Int
  | 0 => 1
  | 1 => 2
  | 2 => 3
  | _ => 4
end Go.Proofs.Ytbjclphgabpgoaa
