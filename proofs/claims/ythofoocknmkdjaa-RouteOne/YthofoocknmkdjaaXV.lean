/-
  When all routes are gone: plain facts; Tick behind all holds.
-/
import Derived.Test.YthofoocknmkdjaaXT
namespace Go.Proofs.Ythofoocknmkdjaa
open Go.RowKit Go.Maps Go.Shelf
set_option linter.unusedSimpArgs false
set_option linter.unusedVariables false
set_option maxRecDepth 20000
theorem tickS_mem {now : Int} {L : List Ro} {n x : Ro} (h : lateB now (expN n) = true) (hx : x ∈ tickS now L n) : x ∈ L ∧ keyB n.k x = false := by
  unfold tickS at hx
  rw [if_pos h] at hx
  unfold delN at hx
  rw [List.mem_filter] at hx
  obtain ⟨h1, h2⟩ := hx
  have h3 : keyB n.k x = false := by simpa using h2
  refine ⟨?_, h3⟩
  split at h1
  · exact h1
  · rcases mem_putN.1 h1 with e | e
    · exfalso
      rw [e] at h3
      have : keyB n.k (expN n) = true := by rw [← expN_k n]; exact keyB_self _
      rw [this] at h3
      cases h3
    · exact e.1
theorem tickR_mem {now : Int} {x : Ro} : ∀ {K L : List Ro}, (∀ n ∈ K, lateB now (expN n) = true) → x ∈ tickR now L K → x ∈ L ∧ ∀ n ∈ K, keyB n.k x = false
  | [], L, _, hx => ⟨hx, fun n hn => by cases hn⟩
  | n :: K, L, h, hx => by
    have ih := tickR_mem (K := K) (L := tickS now L n) (fun m hm => h m (List.mem_cons_of_mem _ hm)) hx
    have q := tickS_mem (h n (List.mem_cons_self ..)) ih.1
    refine ⟨q.1, fun m hm => ?_⟩
    rcases List.mem_cons.1 hm with e | e
    · rw [e]; exact q.2
    · exact ih.2 m e
theorem tickR_none {now : Int} {L K : List Ro} (hp : K.Perm L) (h : ∀ n ∈ L, lateB now (expN n) = true) : tickR now L K = [] := by
  cases e : tickR now L K with
  | nil => rfl
  | cons x r =>
    have hx : x ∈ tickR now L K := by rw [e]; exact List.mem_cons_self ..
    have q := tickR_mem (fun n hn => h n (hp.mem_iff.1 hn)) hx
    have := q.2 x (hp.mem_iff.2 q.1)
    rw [keyB_self] at this
    cases this
/-- Behind all holds there is nothing. -/
theorem tick_all {W : World} {t mb : Nat} {most : Int} {L : List Ro} (h : Tb W t mb most L) (T : Int) (ha : 0 ≤ T) (hb : T ≤ 17592186044416) (h1 : ∀ n ∈ L, n.u ≤ T) (h2 : ∀ n ∈ L, (expN n).u ≤ T) :
    Calls Try.prog 28 #[.pointer (some ⟨t, 0, none⟩), .int .i64 T] W fun e w' => ∃ a1 n1 c1 a2 c2, e = .returned (.tuple #[.slice a1 n1 c1, .slice a2 L.length c2]) ∧ Turn W w' t mb most [] := by
  refine (tick_any h T ha hb).mono ?_
  rintro e w' ⟨a1, c1, a2, c2, K, hp, _, rfl, hT, _⟩
  have e1 : L.filter (lateB T) = L := List.filter_eq_self.2 fun n hn => decide_eq_true (h1 n hn)
  rw [e1] at hp
  have hl : ∀ n ∈ L, lateB T (expN n) = true := fun n hn => decide_eq_true (h2 n hn)
  rw [tickR_none hp hl] at hT
  have e2 : (goneR T K).length = L.length := by
    unfold goneR
    rw [List.filter_eq_self.2, List.length_map, hp.length_eq]
    intro x hx
    obtain ⟨n, hn, rfl⟩ := List.mem_map.1 hx
    exact hl n (hp.mem_iff.1 hn)
  rw [e2]
  exact ⟨_, _, _, _, _, rfl, hT⟩
theorem list_zero {W : World} {t mb : Nat} {most : Int} (h : Tb W t mb most []) : Calls Try.prog 14 #[.pointer (some ⟨t, 0, none⟩)] W fun e w' => ∃ a c, e = .returned (.slice a 0 c) ∧ Below W.heap.size W w' := list_len h
theorem tellR_mem {most : Int} {L : List Ro} {now : Int} {n x : Ro} {f : Bool} (h : x ∈ (tellR most L now n f).2.2) : x ∈ L ∨ (x.u = now + x.d ∧ ((x.d = n.d ∧ n.d ≤ 2147483648) ∨ ∃ old ∈ L, x.d = old.d)) := by
  unfold tellR at h
  split at h
  · exact .inl h
  · rename_i hd
    have hd2 : n.d ≤ 2147483648 := by omega
    cases hg : getN L n.k with
    | none =>
      rw [hg] at h
      dsimp only at h
      unfold tellNewR at h
      split at h
      · exact .inl h
      · split at h
        · exact .inl h
        · rcases mem_putN.1 h with e | e
          · right
            rw [e]
            exact ⟨rfl, .inl ⟨rfl, hd2⟩⟩
          · exact .inl e.1
    | some old =>
      rw [hg] at h
      dsimp only at h
      split at h
      · exact .inl h
      · rcases mem_putN.1 h with e | e
        · right
          have ho : old ∈ L := (getN_some hg).1
          rw [e]
          unfold retold
          split
          · exact ⟨rfl, .inr ⟨old, ho, rfl⟩⟩
          · exact ⟨rfl, .inl ⟨rfl, hd2⟩⟩
        · exact .inl e.1
/-- The time, the longest hold and the routes behind some tales. -/
structure EnP (j : Nat) (now mx : Int) (L : List Ro) : Prop where
  t0 : 0 ≤ now
  t1 : now ≤ j * 1073741824
  m0 : 0 ≤ mx
  m1 : mx ≤ 2147483648
  ll : L.length ≤ j
  at_ : ∀ n ∈ L, n.u ≤ now + n.d ∧ n.d ≤ mx
theorem EnP.gap {j : Nat} {now mx : Int} {L : List Ro} (h : EnP j now mx L) (g : Int) (g0 : 0 ≤ g) (g1 : g ≤ 1073741824) : EnP (j + 1) (now + g) mx L := by
  have t0 := h.t0
  have t1 := h.t1
  refine ⟨by omega, by omega, h.m0, h.m1, by have := h.ll; omega, fun n hn => ?_⟩
  have := h.at_ n hn
  omega
theorem EnP.tell {j : Nat} {now mx : Int} {L : List Ro} (h : EnP j now mx L) (g : Int) (g0 : 0 ≤ g) (g1 : g ≤ 1073741824) (n : Ro) (f : Bool) (hn : n.d < 1 → (tellR 150 L (now + g) n f).2.2 = L) : EnP (j + 1) (now + g) (max mx (min n.d 2147483648)) (tellR 150 L (now + g) n f).2.2 := by
  have t0 := h.t0
  have t1 := h.t1
  have m0 := h.m0
  have m1 := h.m1
  refine ⟨by omega, by omega, by omega, by omega, by have := h.ll; have := tellR_len 150 L (now + g) n f; omega, fun x hx => ?_⟩
  rcases tellR_mem hx with e | ⟨e1, e2⟩
  · have := h.at_ x e
    omega
  · refine ⟨by omega, ?_⟩
    rcases e2 with ⟨e2, e3⟩ | ⟨old, ho, e2⟩
    · omega
    · have := (h.at_ old ho).2
      omega
/-- Behind the taking back of some. -/
structure EnB (now mx : Int) (K : List Ro) (N j : Nat) (L : List Ro) : Prop where
  ll : L.length = N
  at_ : ∀ n ∈ L, n.u ≤ now + n.d ∧ n.d ≤ mx
  ks : ∀ n ∈ L, ∃ m ∈ K, m.k = n.k
  done : ∀ n ∈ L, ∀ m ∈ K.take j, m.k = n.k → n.r = 65535
theorem EnB.step {now mx : Int} {K : List Ro} {N j : Nat} {L : List Ro} (h : EnB now mx K N j L) (hj : j < K.length) : EnB now mx K N (j + 1) (mapR (fun n => retr n now) (mineB K[j].i K[j].a) L) := by
  refine ⟨by rw [mapR_len]; exact h.ll, ?_, ?_, ?_⟩
  · intro n hn
    obtain ⟨m, hm, rfl⟩ := List.mem_map.1 hn
    have := h.at_ m hm
    split
    · exact ⟨Int.le_refl _, this.2⟩
    · exact this
  · intro n hn
    obtain ⟨m, hm, rfl⟩ := List.mem_map.1 hn
    obtain ⟨m', hm', e⟩ := h.ks m hm
    refine ⟨m', hm', ?_⟩
    split
    · exact e
    · exact e
  · intro n hn m' hm' hk
    obtain ⟨m, hm, rfl⟩ := List.mem_map.1 hn
    by_cases hb : mineB K[j].i K[j].a m = true
    · rw [if_pos hb]
      rfl
    · rw [if_neg hb] at hk ⊢
      rw [List.take_succ_eq_append_getElem hj] at hm'
      rcases List.mem_append.1 hm' with e | e
      · exact h.done m hm m' e hk
      · simp at e
        subst e
        have hi : m.i = K[j].i := by rw [show m.i = m.k.i from rfl, ← hk]; rfl
        have ha : m.a.l = K[j].a.l := by rw [show m.a = m.k.a from rfl, ← hk]; rfl
        unfold mineB at hb
        simpa [hi, ha] using hb
theorem EnB.all {now mx : Int} {K : List Ro} {N : Nat} {L : List Ro} (h : EnB now mx K N K.length L) : ∀ n ∈ L, n.r = 65535 := by
  intro n hn
  obtain ⟨m, hm, e⟩ := h.ks n hn
  exact h.done n hn m (by rw [List.take_length]; exact hm) e
theorem expN_gone {n : Ro} (h : n.r = 65535) : expN n = n := if_pos h
theorem expN_u {n : Ro} {now mx : Int} (h : n.u ≤ now + n.d ∧ n.d ≤ mx) (h0 : 0 ≤ mx) : (expN n).u ≤ now + 2 * mx := by
  unfold expN
  split
  · omega
  · show n.u + n.d ≤ _
    omega
end Go.Proofs.Ythofoocknmkdjaa
