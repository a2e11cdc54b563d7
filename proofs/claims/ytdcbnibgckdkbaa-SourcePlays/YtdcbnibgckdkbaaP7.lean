/-
  The document's table tells what the table tells: plain facts.
-/
import Derived.Test.YtdcbnibgckdkbaaP6
namespace Go.Proofs.Ytdcbnibgckdkbaa
open Go.RowKit Go.Maps Go.Shelf
set_option linter.unusedSimpArgs false
set_option linter.unusedVariables false
set_option maxRecDepth 20000
/-- The document's list is that of the map, in order. -/
structure Rel (L K : List Sr) : Prop where
  pm : K.Perm L
  asc : Asc K
  nd : (L.map keyN).Nodup
theorem Rel.ndK {L K : List Sr} (h : Rel L K) : (K.map keyN).Nodup := (h.pm.map _).nodup_iff.2 h.nd
theorem Asc.head {x : Sr} {K : List Sr} (h : Asc (x :: K)) : ∀ y ∈ K, cmpN x y < 0 := (List.pairwise_cons.1 h).1
theorem Asc.unique : ∀ {K K' : List Sr}, Asc K → Asc K' → K.Perm K' → K = K'
  | [], K', _, _, hp => (hp.nil_eq)
  | x :: K, [], _, _, hp => by have := hp.length_eq; simp at this
  | x :: K, y :: K', h, h', hp => by
    have hxy : x = y := by
      have h1 : x ∈ y :: K' := hp.mem_iff.1 (by simp)
      have h2 : y ∈ x :: K := hp.mem_iff.2 (by simp)
      rcases List.mem_cons.1 h1 with e | e
      · exact e
      · rcases List.mem_cons.1 h2 with e2 | e2
        · exact e2.symm
        · have a := h.head y e2
          have b := h'.head x e
          have c := cmpN_neg x y
          omega
    subst hxy
    rw [Asc.unique (List.pairwise_cons.1 h).2 (List.pairwise_cons.1 h').2 (List.Perm.cons_inv hp)]
theorem Asc.filter {K : List Sr} (h : Asc K) (q : Sr → Bool) : Asc (K.filter q) := List.Pairwise.filter _ h
theorem inj_of_nodup : ∀ {L : List Sr} {x y : Sr}, (L.map keyN).Nodup → x ∈ L → y ∈ L → keyN x = keyN y → x = y
  | [], x, y, _, hx, _, _ => by cases hx
  | a :: L, x, y, hnd, hx, hy, e => by
    rw [List.map_cons, List.nodup_cons] at hnd
    rcases List.mem_cons.1 hx with h1 | h1
    · rcases List.mem_cons.1 hy with h2 | h2
      · rw [h1, h2]
      · exact absurd (by rw [← h1, e]; exact List.mem_map_of_mem h2) hnd.1
    · rcases List.mem_cons.1 hy with h2 | h2
      · exact absurd (by rw [← h2, ← e]; exact List.mem_map_of_mem h1) hnd.1
      · exact inj_of_nodup hnd.2 h1 h2 e
theorem getN_perm {L K : List Sr} (h : Rel L K) (p : Pr) (i : Id8) : getN K p i = getN L p i := by
  cases hk : getN K p i with
  | none =>
    cases hl : getN L p i with
    | none => rfl
    | some n =>
      obtain ⟨h1, h2, h3⟩ := getN_some hl
      have := getN_none hk n (h.pm.mem_iff.2 h1)
      rw [keyB_iff.2 ⟨h2, h3⟩] at this
      cases this
  | some n =>
    obtain ⟨h1, h2, h3⟩ := getN_some hk
    cases hl : getN L p i with
    | none =>
      have := getN_none hl n (h.pm.mem_iff.1 h1)
      rw [keyB_iff.2 ⟨h2, h3⟩] at this
      cases this
    | some m =>
      obtain ⟨k1, k2, k3⟩ := getN_some hl
      have e : keyN n = keyN m := by unfold keyN; rw [h2, h3, k2, k3]
      congr 1
      exact inj_of_nodup h.nd (h.pm.mem_iff.1 h1) k1 e
/-- One is replaced in its place. -/
def repN (n : Sr) (m : Sr) : Sr := if keyB n.p n.id m then n else m
theorem repN_key (n m : Sr) : keyN (repN n m) = keyN m := by
  unfold repN
  split
  · rename_i h; exact (keyN_iff.2 h).symm
  · rfl
theorem Asc.rep {K : List Sr} (h : Asc K) (n : Sr) : Asc (K.map (repN n)) := by
  unfold Asc at *
  rw [List.pairwise_map]
  refine h.imp fun {x y} hxy => ?_
  rw [(cmpN_key (repN n y) (repN_key n x)).1, (cmpN_key x (repN_key n y)).2]
  exact hxy
theorem set_rep : ∀ {K : List Sr} {k : Nat} {n n' : Sr}, (K.map keyN).Nodup → K[k]? = some n → keyB n'.p n'.id n = true → K.set k n' = K.map (repN n')
  | [], k, n, n', _, h, _ => by simp at h
  | a :: K, 0, n, n', hnd, h, hk => by
    simp at h
    subst h
    rw [List.map_cons, List.nodup_cons] at hnd
    rw [List.set_cons_zero, List.map_cons]
    congr 1
    · unfold repN; rw [hk]; rfl
    · conv => lhs; rw [← List.map_id K]
      apply List.map_congr_left
      intro x hx
      unfold repN
      have : keyB n'.p n'.id x = false := by
        cases hb : keyB n'.p n'.id x
        · rfl
        · exfalso
          have e : keyN x = keyN a := by
            obtain ⟨a1, a2⟩ := keyB_iff.1 hb
            obtain ⟨b1, b2⟩ := keyB_iff.1 hk
            unfold keyN
            rw [a1, a2, b1, b2]
          exact hnd.1 (e ▸ List.mem_map_of_mem hx)
      rw [this]
      rfl
  | a :: K, k + 1, n, n', hnd, h, hk => by
    rw [List.map_cons, List.nodup_cons] at hnd
    have h' : K[k]? = some n := by simpa using h
    rw [List.set_cons_succ, List.map_cons, set_rep hnd.2 h' hk]
    congr 1
    unfold repN
    have : keyB n'.p n'.id a = false := by
      cases hb : keyB n'.p n'.id a
      · rfl
      · exfalso
        have e : keyN n = keyN a := by
          obtain ⟨a1, a2⟩ := keyB_iff.1 hb
          obtain ⟨b1, b2⟩ := keyB_iff.1 hk
          unfold keyN
          rw [a1, a2, b1, b2]
        exact hnd.1 (e ▸ List.mem_map_of_mem (List.mem_of_getElem? h'))
    rw [this]
    rfl
theorem putN_rep {L : List Sr} {n n' : Sr} (h : n ∈ L) (hk : keyB n'.p n'.id n = true) : putN L n' = L.map (repN n') := by
  unfold putN
  rw [if_pos (List.any_eq_true.2 ⟨n, h, hk⟩)]
  rfl
theorem rel_set {L K : List Sr} {k : Nat} {n n' : Sr} (h : Rel L K) (hk : K[k]? = some n) (he : keyB n'.p n'.id n = true) : Rel (putN L n') (K.set k n') := by
  have hm : n ∈ L := h.pm.mem_iff.1 (List.mem_of_getElem? hk)
  refine ⟨?_, ?_, putN_nd h.nd⟩
  · rw [set_rep h.ndK hk he, putN_rep hm he]
    exact h.pm.map _
  · rw [set_rep h.ndK hk he]
    exact h.asc.rep n'
theorem rel_ins {L K : List Sr} {k : Nat} {n : Sr} (h : Rel L K) (hi : InsP K n k) (hno : ∀ x ∈ K, keyB n.p n.id x = false) : Rel (putN L n) (K.take k ++ n :: K.drop k) := by
  have hL : putN L n = L ++ [n] := by
    unfold putN
    rw [if_neg]
    intro hc
    obtain ⟨x, hx, hb⟩ := List.any_eq_true.1 hc
    rw [hno x (h.pm.mem_iff.2 hx)] at hb
    cases hb
  have hlo : ∀ x ∈ K.take k, cmpN x n < 0 := by
    intro x hx
    have hk0 : 0 < k := by
      cases k with
      | zero => simp at hx
      | succ k => omega
    have hkl : k - 1 < K.length := by have := hi.le; omega
    have h1 := hi.lo K[k - 1] hk0 (List.getElem?_eq_getElem hkl)
    have h2 : cmpN K[k - 1] n ≠ 0 := fun e => by
      have := (cmpN_zero _ _).1 e
      have h3 := hno K[k - 1] (List.getElem_mem hkl)
      rw [keyN_iff.1 this] at h3
      cases h3
    have h4 : cmpN K[k - 1] n < 0 := by omega
    obtain ⟨a, ha, rfl⟩ := List.mem_take_iff_getElem.1 hx
    by_cases e : a = k - 1
    · subst e; exact h4
    · have := (List.pairwise_iff_getElem.1 h.asc) a (k - 1) (by omega) hkl (by omega)
      exact cmpN_trans _ _ _ this h4
  have hhi : ∀ x ∈ K.drop k, cmpN n x < 0 := fun x hx => by
    have := hi.hi x hx
    have := cmpN_neg n x
    omega
  refine ⟨?_, ?_, putN_nd h.nd⟩
  · rw [hL]
    refine (List.perm_middle).trans ?_
    rw [List.take_append_drop]
    exact (h.pm.cons n).trans (List.perm_append_comm (l₁ := [n]) (l₂ := L))
  · unfold Asc
    rw [List.pairwise_append, List.pairwise_cons]
    refine ⟨List.Pairwise.sublist (List.take_sublist _ _) h.asc, ⟨hhi, List.Pairwise.sublist (List.drop_sublist _ _) h.asc⟩, fun x hx y hy => ?_⟩
    rcases List.mem_cons.1 hy with rfl | hy
    · exact hlo x hx
    · exact cmpN_trans _ _ _ (hlo x hx) (hhi y hy)
theorem rel_keep {most : Int} {L K K' : List Sr} {now : Int} {p : Pr} {i : Id8} {s m z : Int} (h : Rel L K) (hk : KeepP most K now p i s m z K') : z = (keepR most L now p i s m).1 ∧ Rel (keepR most L now p i s m).2 K' := by
  have hg := getN_perm h p i
  have hlen := h.pm.length_eq
  unfold keepR
  rcases hk with ⟨h1, rfl, rfl⟩ | ⟨h1, k, n, h2, h3, rfl, rfl⟩ | ⟨h1, h2, h3, rfl, rfl⟩ | ⟨h1, h2, h3, rfl, k, h4, rfl⟩
  · rw [if_pos h1]
    exact ⟨rfl, h⟩
  · rw [if_neg h1, ← hg, h3, if_neg (by simp)]
    refine ⟨rfl, rel_set h h2 ?_⟩
    obtain ⟨_, e1, e2⟩ := getN_some h3
    exact keyB_iff.2 ⟨e1, e2⟩
  · rw [if_neg h1, ← hg, h2, if_pos ⟨rfl, by omega⟩]
    exact ⟨rfl, h⟩
  · rw [if_neg h1, ← hg, h2, if_neg (fun hc => by have := hc.2; omega)]
    exact ⟨rfl, rel_ins h h4 (fun x hx => getN_none h2 x hx)⟩
theorem rel_tick {L K : List Sr} (h : Rel L K) (now : Int) : Rel (L.filter (fun n => !overB now n)) (K.filter (fun n => !overB now n)) ∧ ∀ G, G.Perm (L.filter (overB now)) → Asc G → G = K.filter (overB now) :=
  ⟨⟨h.pm.filter _, h.asc.filter _, List.Nodup.sublist (List.Sublist.map _ List.filter_sublist) h.nd⟩, fun G hp ha => Asc.unique ha (h.asc.filter _) (hp.trans (h.pm.filter _).symm)⟩
theorem rel_touch {L K : List Sr} (h : Rel L K) (now : Int) (p : Pr) (i : Id8) : (touR L now p [i, i]).2 = 2 * (touK K now p i).1 ∧ Rel (touR L now p [i, i]).1 (touK K now p i).2 := by
  have hg := getN_perm h p i
  unfold touR touK
  rw [hg]
  simp only [List.foldl_cons, List.foldl_nil]
  rcases fnd_some (K := K) (p := p) (i := i) with ⟨e1, e2⟩ | ⟨k, n, e1, e2, e3⟩
  · rw [hg] at e2
    have t1 : touS now p (L, 0) i = (L, 0) := touS_none e2
    rw [t1, t1, e2]
    exact ⟨rfl, h⟩
  · rw [hg] at e3
    obtain ⟨q1, q2, q3⟩ := getN_some e3
    have t1 : touS now p (L, 0) i = (putN L (atS n now), 0 + 1) := touS_some e3
    have g2 : getN (putN L (atS n now)) p i = some (atS n now) := getN_put_same ⟨q2, q3⟩
    have t2 : touS now p (putN L (atS n now), 0 + 1) i = (putN (putN L (atS n now)) (atS (atS n now) now), 0 + 1 + 1) := touS_some g2
    have hp : putN (putN L (atS n now)) (atS (atS n now) now) = putN L (atS n now) := by
      have hm : atS n now ∈ putN L (atS n now) := mem_putN.2 (.inl rfl)
      rw [show atS (atS n now) now = atS n now from rfl, putN_rep hm (keyB_iff.2 ⟨rfl, rfl⟩)]
      conv => rhs; rw [← List.map_id (putN L (atS n now))]
      apply List.map_congr_left
      intro x hx
      unfold repN
      split
      · rename_i hb
        rcases mem_putN.1 hx with rfl | ⟨_, h2⟩
        · rfl
        · rw [h2] at hb; cases hb
      · rfl
    rw [t1, t2, hp, e3, e1]
    refine ⟨rfl, ?_⟩
    show Rel (putN L (atS n now)) (K.set ((k : Int)).toNat (atS n now))
    rw [Int.toNat_natCast]
    exact rel_set h e2 (keyB_iff.2 ⟨rfl, rfl⟩)
theorem rel_list {L K G : List Sr} (h : Rel L K) (hp : G.Perm L) (ha : Asc G) : G = K := Asc.unique ha h.asc (hp.trans h.pm.symm)
theorem rel_next {L K : List Sr} (h : Rel L K) {f g : Int} {b c : Bool} (h1 : NextIs L f b) (h2 : NextIs K g c) : f = g ∧ b = c := h1.uniq (h2.perm h.pm)
end Go.Proofs.Ytdcbnibgckdkbaa
