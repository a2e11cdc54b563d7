/-
  The document's table tells what the table tells: plain facts.
-/
import Derived.Test.YtbjclphgabpgoaaQ4
import Derived.Test.YtbjclphgabpgoaaQ7
namespace Go.Proofs.Ytbjclphgabpgoaa
open Go.RowKit Go.Maps Go.Shelf
set_option linter.unusedSimpArgs false
set_option linter.unusedVariables false
set_option maxRecDepth 20000
/-- The document's list is that of the map, in order. -/
structure Rel (L K : List Sr) : Prop where
  pm : K.Perm L
  asc : Asc K
  nd : (L.map keyN).Nodup
theorem Rel.ndK {L K : List Sr} (h : Rel L K) : (K.map keyN).Nodup := (h.pm.map _).nodup_iff.2 h.nd
theorem Asc.head {x : Sr} {K : List Sr} (h : Asc (x :: K)) : ∀ y ∈ K, cmpN x y < 0 := (List.pairwise_cons.1 h).1
theorem Asc.unique : ∀ {K K' : List Sr}, Asc K → Asc K' → K.Perm K' → K = K'
  | [], K', _, _, hp => (hp.nil_eq)
  | x :: K, [], _, _, hp => by have := hp.length_eq; simp at this
  | x :: K, y :: K', h, h', hp => by
    have hxy : x = y := by
      have h1 : x ∈ y :: K' := hp.mem_iff.1 (by simp)
      have h2 : y ∈ x :: K := hp.mem_iff.2 (by simp)
      rcases List.mem_cons.1 h1 with e | e
      · exact e
      · rcases List.mem_cons.1 h2 with e2 | e2
        · exact e2.symm
        · have a := h.head y e2
          have b := h'.head x e
          have c := cmpN_neg x y
          omega
    subst hxy
    rw [Asc.unique (List.pairwise_cons.1 h).2 (List.pairwise_cons.1 h').2 (List.Perm.cons_inv hp)]
theorem Asc.filter {K : List Sr} (h : Asc K) (q : Sr → Bool) : Asc (K.filter q) := List.Pairwise.filter _ h
theorem inj_of_nodup : ∀ {L : List Sr} {x y : Sr}, (L.map keyN).Nodup → x ∈ L → y ∈ L → keyN x = keyN y → x = y
  | [], x, y, _, hx, _, _ => by cases hx
  | a :: L, x, y, hnd, hx, hy, e => by
    rw [List.map_cons, List.nodup_cons] at hnd
    rcases List.mem_cons.1 hx with h1 | h1
    · rcases List.mem_cons.1 hy with h2 | h2
      · rw [h1, h2]
      · exact absurd (by rw [← h1, e]; exact List.mem_map_of_mem h2) hnd.1
    · rcases List.mem_cons.1 hy with h2 | h2
      · exact absurd (by rw [← h2, ← e]; exact List.mem_map_of_mem h1) hnd.1
      · exact inj_of_nodup hnd.2 h1 h2 e
theorem getN_perm {L K : List Sr} (h : Rel L K) (p : Pr) (i : Id8) : getN K p i = getN L p i := by
  cases hk : getN K p i with
  | none =>
    cases hl : getN L p i with
    | none => rfl
    | some n =>
      obtain ⟨h1, h2, h3⟩ := getN_some hl
      have := getN_none hk n (h.pm.mem_iff.2 h1)
      rw [keyB_iff.2 ⟨h2, h3⟩] at this
      cases this
  | some n =>
    obtain ⟨h1, h2, h3⟩ := getN_some hk
    cases hl : getN L p i with
    | none =>
      have := getN_none hl n (h.pm.mem_iff.1 h1)
      rw [keyB_iff.2 ⟨h2, h3⟩] at this
      cases this
    | some m =>
      obtain ⟨k1, k2, k3⟩ := getN_some hl
      have e : keyN n = keyN m := by unfold keyN; rw [h2, h3, k2, k3]
      congr 1
      exact inj_of_nodup h.nd (h.pm.mem_iff.1 h1) k1 e
/-- One is replaced in its place. -/
def repN (n : Sr) (m : Sr) : Sr := if keyB n.p n.id m then n else m
theorem repN_key (n m : Sr) : keyN (repN n m) = keyN m := by
  unfold repN
  split
  · rename_i h; exact (keyN_iff.2 h).symm
  · rfl
theorem Asc.rep {K : List Sr} (h : Asc K) (n : Sr) : Asc (K.map (repN n)) := by
  unfold Asc at *
  rw [List.pairwise_map]
  refine h.imp fun {x y} hxy => ?_
  rw [(cmpN_key (repN n y) (repN_key n x)).1, (cmpN_key x (repN_key n y)).2]
  exact hxy
theorem set_rep : ∀ {K : List Sr} {k : Nat} {n n' : Sr}, (K.map keyN).Nodup → K[k]? = some n → keyB n'.p n'.id n = true → K.set k n' = K.map (repN n')
  | [], k, n, n', _, h, _ => by simp at h
  | a :: K, 0, n, n', hnd, h, hk => by
    simp at h
    subst h
    rw [List.map_cons, List.nodup_cons] at hnd
    rw [List.set_cons_zero, List.map_cons]
    congr 1
    · unfold repN; rw [hk]; rfl
    · conv => lhs; rw [← List.map_id K]
      apply List.map_congr_left
      intro x hx
      unfold repN
      have : keyB n'.p n'.id x = false := by
        cases hb : keyB n'.p n'.id x
        · rfl
        · exfalso
          have e : keyN x = keyN a := by
            obtain ⟨a1, a2⟩ := keyB_iff.1 hb
            obtain ⟨b1, b2⟩ := keyB_iff.1 hk
            unfold keyN
            rw [a1, a2, b1, b2]
          exact hnd.1 (e ▸ List.mem_map_of_mem hx)
      rw [this]
      rfl
  | a :: K, k + 1, n, n', hnd, h, hk => by
    rw [List.map_cons, List.nodup_cons] at hnd
    have h' : K[k]? = some n := by simpa using h
    rw [List.set_cons_succ, List.map_cons, set_rep hnd.2 h' hk]
    congr 1
    unfold repN
    have : keyB n'.p n'.id a = false := by
      cases hb : keyB n'.p n'.id a
      · rfl
      · exfalso
        have e : keyN n = keyN a := by
          obtain ⟨a1, a2⟩ := keyB_iff.1 hb
          obtain ⟨b1, b2⟩ := keyB_iff.1 hk
          unfold keyN
          rw [a1, a2, b1, b2]
        exact hnd.1 (e ▸ List.mem_map_of_mem (List.mem_of_getElem? h'))
    rw [this]
    rfl
theorem putN_rep {L : List Sr} {n n' : Sr} (h : n ∈ L) (hk : keyB n'.p n'.id n = true) : putN L n' = L.map (repN n') := by
  unfold putN
  rw [if_pos (List.any_eq_true.2 ⟨n, h, hk⟩)]
  rfl
theorem rel_set {L K : List Sr} {k : Nat} {n n' : Sr} (h : Rel L K) (hk : K[k]? = some n) (he : keyB n'.p n'.id n = true) : Rel (putN L n') (K.set k n') := by
  have hm : n ∈ L := h.pm.mem_iff.1 (List.mem_of_getElem? hk)
  refine ⟨?_, ?_, putN_nd h.nd⟩
  · rw [set_rep h.ndK hk he, putN_rep hm he]
    exact h.pm.map _
  · rw [set_rep h.ndK hk he]
    exact h.asc.rep n'
theorem rel_ins {L K : List Sr} {k : Nat} {n : Sr} (h : Rel L K) (hi : InsP K n k) (hno : ∀ x ∈ K, keyB n.p n.id x = false) : Rel (putN L n) (K.take k ++ n :: K.drop k) := by
  have hL : putN L n = L ++ [n] := by
    unfold putN
    rw [if_neg]
    intro hc
    obtain ⟨x, hx, hb⟩ := List.any_eq_true.1 hc
    rw [hno x (h.pm.mem_iff.2 hx)] at hb
    cases hb
  have hlo : ∀ x ∈ K.take k, cmpN x n < 0 := by
    intro x hx
    have hk0 : 0 < k := by
      cases k with
      | zero => simp at hx
      | succ k => omega
    have hkl : k - 1 < K.length := by have := hi.le; omega
    have h1 := hi.lo K[k - 1] hk0 (List.getElem?_eq_getElem hkl)
    have h2 : cmpN K[k - 1] n ≠ 0 := fun e => by
      have := (cmpN_zero _ _).1 e
      have h3 := hno K[k - 1] (List.getElem_mem hkl)
      rw [keyN_iff.1 this] at h3
      cases h3
    have h4 : cmpN K[k - 1] n < 0 := by omega
    obtain ⟨a, ha, rfl⟩ := List.mem_take_iff_getElem.1 hx
    by_cases e : a = k - 1
    · subst e; exact h4
    · have := (List.pairwise_iff_getElem.1 h.asc) a (k - 1) (by omega) hkl (by omega)
      exact cmpN_trans _ _ _ this h4
  have hhi : ∀ x ∈ K.drop k, cmpN n x < 0 := fun x hx => by
    have := hi.hi x hx
    have := cmpN_neg n x
    omega
  refine ⟨?_, ?_, putN_nd h.nd⟩
  · rw [hL]
    refine (List.perm_middle).trans ?_
    rw [List.take_append_drop]
    exact (h.pm.cons n).trans (List.perm_append_comm (l₁ := [n]) (l₂ := L))
  · unfold Asc
    rw [List.pairwise_append, List.pairwise_cons]
    refine ⟨List.Pairwise.sublist (List.take_sublist _ _) h.asc, ⟨hhi, List.Pairwise.sublist (List.drop_sublist _ _) h.asc⟩, fun x hx y hy => ?_⟩
    rcases List.mem_cons.1 hy with rfl | hy
    · exact hlo x hx
    · exact cmpN_trans _ _ _ (hlo x hx) (hhi y hy)
theorem newR_is (now : Int) (p : Pr) (i : Id8) (s : Int) : newR now p i s = ⟨p, i, s, 1, now + 2000⟩ := by
  unfold newR sentR
  simp
theorem rel_ask {most : Int} {L K K' : List Sr} {now : Int} {p : Pr} {i : Id8} {s z : Int} {b : Bool} (h : Rel L K) (hk : AskP most K p i s ⟨p, i, s, 1, now + 2000⟩ b z K') : b = askB most L p i s ∧ z = askE most L p i ∧ Rel (askL most L now p i s) K' := by
  have hg := getN_perm h p i
  have hlen := h.pm.length_eq
  unfold askL
  rcases hk with ⟨k, n, h2, h3, h4, rfl, rfl, rfl⟩ | ⟨k, n, h2, h3, h4, rfl, rfl, rfl⟩ | ⟨h2, h3, rfl, rfl, rfl⟩ | ⟨h2, h3, rfl, rfl, k, h4, rfl⟩
  · rw [hg] at h3
    have hb : askB most L p i s = false := by unfold askB; rw [h3]; exact h4
    have he : askE most L p i = 0 := by unfold askE; rw [h3]
    rw [hb, he]
    exact ⟨rfl, rfl, h⟩
  · have h3' := h3
    rw [hg] at h3
    have hb : askB most L p i s = true := by unfold askB; rw [h3]; exact h4
    have he : askE most L p i = 0 := by unfold askE; rw [h3]
    rw [hb, he, if_pos rfl, newR_is]
    obtain ⟨_, e1, e2⟩ := getN_some h3
    exact ⟨rfl, rfl, rel_set h h2 (keyB_iff.2 ⟨e1, e2⟩)⟩
  · have h2' := h2
    rw [hg] at h2
    have hb : askB most L p i s = false := by unfold askB; rw [h2]; exact decide_eq_false (by omega)
    have he : askE most L p i = 6 := by unfold askE; rw [h2]; exact if_pos (by omega)
    rw [hb, he]
    exact ⟨rfl, rfl, h⟩
  · have h2' := h2
    rw [hg] at h2
    have hb : askB most L p i s = true := by unfold askB; rw [h2]; exact decide_eq_true (by omega)
    have he : askE most L p i = 0 := by unfold askE; rw [h2]; exact if_neg (by omega)
    rw [hb, he, if_pos rfl, newR_is]
    exact ⟨rfl, rfl, rel_ins h h4 (fun x hx => getN_none h2' x hx)⟩
theorem rel_filter {L K : List Sr} (h : Rel L K) (q : Sr → Bool) : Rel (L.filter q) (K.filter q) :=
  ⟨h.pm.filter _, h.asc.filter _, List.Nodup.sublist (List.Sublist.map _ List.filter_sublist) h.nd⟩
theorem del_at {K : List Sr} {k : Nat} {m : Sr} {p : Pr} {i : Id8} (hnd : (K.map keyN).Nodup) (hk : K[k]? = some m) (hp : m.p = p) (hi : m.id = i) : K.take k ++ K.drop (k + 1) = delN K p i := by
  obtain ⟨hlt, he⟩ := List.getElem?_eq_some_iff.1 hk
  have hK : K = K.take k ++ m :: K.drop (k + 1) := by rw [← he, ← List.drop_eq_getElem_cons hlt, List.take_append_drop]
  have hnd2 := hnd
  rw [hK, List.map_append, List.map_cons] at hnd2
  rw [List.nodup_append, List.nodup_cons] at hnd2
  obtain ⟨_, ⟨h2, _⟩, h3⟩ := hnd2
  have hm : keyB p i m = true := keyB_iff.2 ⟨hp, hi⟩
  have h4 : ∀ x, keyN x ≠ keyN m → keyB p i x = false := fun x hx => by
    cases hb : keyB p i x with
    | false => rfl
    | true =>
      obtain ⟨a1, a2⟩ := keyB_iff.1 hb
      exact absurd (by unfold keyN; rw [a1, a2, hp, hi]) hx
  conv => rhs; rw [hK]
  unfold delN
  rw [List.filter_append, List.filter_cons, hm, List.filter_eq_self.2, List.filter_eq_self.2]
  · simp
  · intro x hx
    rw [h4 x (fun e => h2 (e ▸ List.mem_map_of_mem hx))]
    rfl
  · intro x hx
    rw [h4 x (fun e => h3 _ (List.mem_map_of_mem hx) _ (by simp) e)]
    rfl
theorem rel_met {L K K' : List Sr} {p : Pr} {i : Id8} {a b : Int} {z : Bool} (h : Rel L K) (hk : RmP K p i a b z K') : z = metB L p i a b ∧ Rel (metL L p i a b) K' := by
  have hg := getN_perm h p i
  unfold metL
  rcases hk with ⟨h2, rfl, rfl⟩ | ⟨k, m, h1, h2, h3, rfl, rfl⟩ | ⟨k, m, h1, h2, h3, rfl, rfl⟩
  · rw [hg] at h2
    have hb : metB L p i a b = false := by unfold metB; rw [h2]
    rw [hb]
    exact ⟨rfl, h⟩
  · rw [hg] at h2
    have hb : metB L p i a b = false := by unfold metB; rw [h2]; exact h3
    rw [hb]
    exact ⟨rfl, h⟩
  · obtain ⟨_, e1, e2⟩ := getN_some h2
    rw [hg] at h2
    have hb : metB L p i a b = true := by unfold metB; rw [h2]; exact h3
    rw [hb, if_pos rfl, del_at h.ndK h1 e1 e2]
    exact ⟨rfl, rel_filter h _⟩
theorem inQ_two (p q : Pr) : inQ [p, p] q = qB q p := by
  cases h : qB q p with
  | true => rw [inQ_iff, qB_iff.1 h]; simp
  | false =>
    cases h2 : inQ [p, p] q with
    | false => rfl
    | true =>
      have := inQ_iff.1 h2
      simp at this
      rw [qB_iff.2 this] at h
      cases h
theorem len_split (q : Sr → Bool) : ∀ K : List Sr, (K.filter q).length + (K.filter fun n => !q n).length = K.length
  | [] => rfl
  | a :: K => by
    have := len_split q K
    cases h : q a <;> simp [List.filter_cons, h] <;> omega
theorem rel_forget {L K : List Sr} (h : Rel L K) (p : Pr) : ((fgN L [p, p] : Nat) : Int) = (K.length : Int) - ((K.filter fun n => !qB n.p p).length : Nat) ∧ Rel (fgL L [p, p]) (K.filter fun n => !qB n.p p) := by
  unfold fgN fgL
  simp only [inQ_two]
  refine ⟨?_, rel_filter h _⟩
  have h1 := (h.pm.filter (fun n => qB n.p p)).length_eq
  have h2 := len_split (fun n => qB n.p p) K
  omega
theorem sent_key (n : Sr) (now : Int) : keyN (sentR n now) = keyN n := rfl
theorem up_key (n : Sr) (now : Int) : keyN (upS now n) = keyN n := by unfold upS; split <;> rfl
theorem nd_of_keys {L : List Sr} (h : (L.map keyN).Nodup) : L.Nodup := List.Pairwise.imp (fun hab e => hab (by rw [e])) (List.pairwise_map.1 h)
theorem mem_tickS {L : List Sr} {now : Int} {n x : Sr} : x ∈ tickS now L n ↔ (x ∈ L ∧ keyN x ≠ keyN n) ∨ (¬ n.m = 4 ∧ x = sentR n now) := by
  have hkey : ∀ y, keyB n.p n.id y = false ↔ keyN y ≠ keyN n := fun y => by
    constructor
    · intro h e
      rw [keyN_iff.1 e] at h
      cases h
    · intro h
      cases hb : keyB n.p n.id y with
      | false => rfl
      | true => exact absurd (keyN_iff.2 hb) h
  unfold tickS
  split
  · rename_i h4
    unfold delN
    rw [List.mem_filter]
    constructor
    · rintro ⟨h1, h2⟩
      exact .inl ⟨h1, (hkey x).1 (by simpa using h2)⟩
    · rintro (⟨h1, h2⟩ | ⟨h1, _⟩)
      · exact ⟨h1, by rw [(hkey x).2 h2]; rfl⟩
      · exact absurd h4 h1
  · rename_i h4
    rw [mem_putN]
    constructor
    · rintro (h1 | ⟨h1, h2⟩)
      · exact .inr ⟨h4, h1⟩
      · exact .inl ⟨h1, (hkey x).1 h2⟩
    · rintro (⟨h1, h2⟩ | ⟨_, h2⟩)
      · exact .inr ⟨h1, (hkey x).2 h2⟩
      · exact .inl h2
theorem mem_tickR {now : Int} : ∀ {G L : List Sr} {x : Sr}, (G.map keyN).Nodup → (∀ g ∈ G, g ∈ L) → (x ∈ tickR now L G ↔ (x ∈ L ∧ ∀ g ∈ G, keyN x ≠ keyN g) ∨ ∃ g ∈ G, ¬ g.m = 4 ∧ x = sentR g now)
  | [], L, x, _, _ => by simp [tickR]
  | n :: G, L, x, hnd, hsub => by
    rw [List.map_cons, List.nodup_cons] at hnd
    have hne : ∀ g ∈ G, keyN g ≠ keyN n := fun g hg e => hnd.1 (e ▸ List.mem_map_of_mem hg)
    have ih := mem_tickR (now := now) (G := G) (L := tickS now L n) (x := x) hnd.2 (fun g hg => mem_tickS.2 (.inl ⟨hsub g (List.mem_cons_of_mem _ hg), hne g hg⟩))
    show x ∈ tickR now (tickS now L n) G ↔ _
    rw [ih, mem_tickS]
    constructor
    · rintro (⟨⟨h1, h2⟩ | ⟨h1, rfl⟩, h3⟩ | ⟨g, hg, h1, h2⟩)
      · refine .inl ⟨h1, fun g hg => ?_⟩
        rcases List.mem_cons.1 hg with rfl | hg
        · exact h2
        · exact h3 g hg
      · exact .inr ⟨n, by simp, h1, rfl⟩
      · exact .inr ⟨g, List.mem_cons_of_mem _ hg, h1, h2⟩
    · rintro (⟨h1, h2⟩ | ⟨g, hg, h1, rfl⟩)
      · exact .inl ⟨.inl ⟨h1, h2 n (by simp)⟩, fun g hg => h2 g (List.mem_cons_of_mem _ hg)⟩
      · rcases List.mem_cons.1 hg with rfl | hg
        · exact .inl ⟨.inr ⟨h1, rfl⟩, fun g' hg' e => hne g' hg' (by rw [← e, sent_key])⟩
        · exact .inr ⟨g, hg, h1, rfl⟩
theorem rel_tick {L K G : List Sr} {now : Int} (h : Rel L K) (hp : G.Perm (L.filter (lateB now))) (ha : Asc G) (hnd : ((tickR now L G).map keyN).Nodup) : againR now G = agR now K ∧ goneR G = goR now K ∧ Rel (tickR now L G) (leftR now K) := by
  have hG : G = K.filter (lateB now) := Asc.unique ha (h.asc.filter _) (hp.trans (h.pm.filter _).symm)
  have hGn : (G.map keyN).Nodup := by
    rw [hG]
    exact List.Nodup.sublist (List.Sublist.map _ List.filter_sublist) h.ndK
  have hGs : ∀ g ∈ G, g ∈ L := fun g hg => (List.mem_filter.1 (hp.mem_iff.1 hg)).1
  have hGl : ∀ g, g ∈ G ↔ g ∈ L ∧ lateB now g = true := fun g => by rw [hp.mem_iff, List.mem_filter]
  have hlk : (leftR now K).map keyN = (K.filter (stayB now)).map keyN := by
    unfold leftR
    rw [List.map_map]
    exact List.map_congr_left fun x _ => up_key x now
  have hln : ((leftR now K).map keyN).Nodup := by
    rw [hlk]
    exact List.Nodup.sublist (List.Sublist.map _ List.filter_sublist) h.ndK
  refine ⟨by rw [hG]; rfl, by rw [hG]; rfl, ⟨?_, ?_, hnd⟩⟩
  · rw [List.perm_ext_iff_of_nodup (nd_of_keys hln) (nd_of_keys hnd)]
    intro x
    rw [mem_tickR hGn hGs]
    unfold leftR
    rw [List.mem_map]
    constructor
    · rintro ⟨n, hn, rfl⟩
      obtain ⟨h1, h2⟩ := List.mem_filter.1 hn
      have hnL : n ∈ L := h.pm.mem_iff.1 h1
      unfold upS
      cases hl : lateB now n with
      | true =>
        rw [if_pos rfl]
        refine .inr ⟨n, (hGl n).2 ⟨hnL, hl⟩, ?_, rfl⟩
        intro h4
        unfold stayB at h2
        rw [hl] at h2
        simp [h4] at h2
      | false =>
        rw [if_neg (by simp)]
        refine .inl ⟨hnL, fun g hg e => ?_⟩
        obtain ⟨g1, g2⟩ := (hGl g).1 hg
        have := inj_of_nodup h.nd hnL g1 e
        rw [this, g2] at hl
        cases hl
    · rintro (⟨h1, h2⟩ | ⟨g, hg, h1, rfl⟩)
      · have hl : lateB now x = false := by
          cases hl : lateB now x with
          | false => rfl
          | true => exact absurd rfl (h2 x ((hGl x).2 ⟨h1, hl⟩))
        refine ⟨x, List.mem_filter.2 ⟨h.pm.mem_iff.2 h1, by unfold stayB; rw [hl]; rfl⟩, ?_⟩
        unfold upS
        rw [hl, if_neg (by simp)]
      · obtain ⟨g1, g2⟩ := (hGl g).1 hg
        refine ⟨g, List.mem_filter.2 ⟨h.pm.mem_iff.2 g1, by unfold stayB; rw [g2]; simp [h1]⟩, ?_⟩
        unfold upS
        rw [g2, if_pos rfl]
  · unfold Asc leftR
    rw [List.pairwise_map]
    refine (h.asc.filter (stayB now)).imp fun {x y} hxy => ?_
    rw [(cmpN_key (upS now y) (up_key x now)).1, (cmpN_key x (up_key y now)).2]
    exact hxy
theorem rel_list {L K G : List Sr} (h : Rel L K) (hp : G.Perm L) (ha : Asc G) : G = K := Asc.unique ha h.asc (hp.trans h.pm.symm)
theorem rel_next {L K : List Sr} (h : Rel L K) {f g : Int} {b c : Bool} (h1 : NextIs L f b) (h2 : NextIs K g c) : f = g ∧ b = c := (h1.perm h.pm.symm).uniq h2
end Go.Proofs.Ytbjclphgabpgoaa
