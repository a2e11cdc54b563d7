/-
  The kernel's table, plainly: what is held, by pairs.
-/
import Derived.Test.YtadnnjngflphjaaB2
namespace Go.Proofs.Ytadnnjngflphjaa
open Go.RowKit Go.Maps
set_option linter.unusedSimpArgs false
set_option linter.unusedVariables false
def hp (h : Hd) : Pr := h.e.p
/-- What is held of a pair. -/
def fnd (F : List Hd) (p : Pr) : Option Hd := F.find? (fun h => qB (hp h) p)
def putF (F : List Hd) (n : Hd) : List Hd := if F.any (fun h => qB (hp h) (hp n)) then F.map (fun h => if qB (hp h) (hp n) then n else h) else F ++ [n]
def delF (F : List Hd) (p : Pr) : List Hd := F.filter (fun h => !qB (hp h) p)
def flat (L : List Ob) : List Hd := L.flatMap Ob.S
theorem mem_flat {L : List Ob} {x : Hd} : x ∈ flat L ↔ ∃ o ∈ L, x ∈ o.S := by
  unfold flat; rw [List.mem_flatMap]
theorem fnd_some {F : List Hd} (hn : (F.map hp).Nodup) {p : Pr} {x : Hd} : fnd F p = some x ↔ x ∈ F ∧ hp x = p := by
  constructor
  · intro h
    exact ⟨List.mem_of_find?_eq_some h, qB_iff.1 (by have h2 := List.find?_some h; exact h2)⟩
  · rintro ⟨hx, rfl⟩
    unfold fnd
    cases hf : F.find? (fun h => qB (hp h) (hp x)) with
    | none =>
      have := List.find?_eq_none.1 hf x hx
      rw [qB_self] at this
      exact absurd rfl this
    | some y =>
      have h1 := List.mem_of_find?_eq_some hf
      have h2 : hp y = hp x := qB_iff.1 (by have h3 := List.find?_some hf; exact h3)
      congr 1
      obtain ⟨i, hi, rfl⟩ := List.getElem_of_mem h1
      obtain ⟨j, hj, rfl⟩ := List.getElem_of_mem hx
      have : i = j := by
        have h3 := (List.getElem_inj (i := i) (j := j) (h₀ := by simpa using hi) (h₁ := by simpa using hj) hn).1
        exact h3 (by simpa using h2)
      subst this; rfl
theorem fnd_none {F : List Hd} {p : Pr} : fnd F p = none ↔ ∀ x ∈ F, hp x ≠ p := by
  unfold fnd
  rw [List.find?_eq_none]
  exact ⟨fun h x hx e => h x hx (by rw [e]; exact qB_self p), fun h x hx e => h x hx (qB_iff.1 e)⟩
theorem fnd_perm {F G : List Hd} (hn : (F.map hp).Nodup) (h : F.Perm G) (p : Pr) : fnd F p = fnd G p := by
  have hn' : (G.map hp).Nodup := (h.map _).nodup_iff.1 hn
  apply Option.ext
  intro x
  rw [fnd_some hn, fnd_some hn', h.mem_iff]
theorem mem_putF {F : List Hd} {n x : Hd} : x ∈ putF F n ↔ x = n ∨ x ∈ F ∧ hp x ≠ hp n := by
  unfold putF
  split
  · rename_i h
    obtain ⟨y, hy, hk⟩ := List.any_eq_true.1 h
    rw [List.mem_map]
    constructor
    · rintro ⟨m, hm, rfl⟩
      cases hb : qB (hp m) (hp n)
      · exact .inr ⟨by simpa using hm, by simpa using qB_no.1 hb⟩
      · exact .inl (by simp)
    · rintro (rfl | ⟨h1, h2⟩)
      · exact ⟨y, hy, by simp [hk]⟩
      · exact ⟨x, h1, by rw [if_neg (by rw [qB_no.2 h2]; simp)]⟩
  · rename_i h
    rw [List.mem_append, List.mem_singleton]
    constructor
    · rintro (h1 | h1)
      · refine .inr ⟨h1, fun e => h (List.any_eq_true.2 ⟨x, h1, qB_iff.2 e⟩)⟩
      · exact .inl h1
    · rintro (rfl | ⟨h1, h2⟩)
      · exact .inr rfl
      · exact .inl h1
theorem mem_delF {F : List Hd} {p : Pr} {x : Hd} : x ∈ delF F p ↔ x ∈ F ∧ hp x ≠ p := by
  unfold delF
  rw [List.mem_filter]
  constructor
  · rintro ⟨h1, h2⟩
    exact ⟨h1, fun e => by rw [qB_iff.2 e] at h2; cases h2⟩
  · rintro ⟨h1, h2⟩
    exact ⟨h1, by rw [qB_no.2 h2]; rfl⟩
theorem putF_nd {F : List Hd} {n : Hd} (h : (F.map hp).Nodup) : ((putF F n).map hp).Nodup := by
  unfold putF
  split
  · have e : (F.map (fun h => if qB (hp h) (hp n) then n else h)).map hp = F.map hp := by
      rw [List.map_map]
      apply List.map_congr_left
      intro m _
      simp only [Function.comp_def]
      split
      · rename_i hb; exact (qB_iff.1 hb).symm
      · rfl
    rw [e]; exact h
  · rename_i hn
    rw [List.map_append, List.nodup_append]
    refine ⟨h, by simp, ?_⟩
    intro a ha b hb
    obtain ⟨m, hm, rfl⟩ := List.mem_map.1 ha
    simp at hb
    subst hb
    intro e
    exact hn (List.any_eq_true.2 ⟨m, hm, qB_iff.2 e⟩)
theorem delF_nd {F : List Hd} {p : Pr} (h : (F.map hp).Nodup) : ((delF F p).map hp).Nodup := List.Sublist.nodup (List.Sublist.map _ List.filter_sublist) h
theorem putF_le {F : List Hd} {n : Hd} : (putF F n).length ≤ F.length + 1 := by
  unfold putF
  split
  · simp
  · simp
theorem delF_le {F : List Hd} {p : Pr} : (delF F p).length ≤ F.length := List.length_filter_le _ _
theorem nodup_of {F : List Hd} (h : (F.map hp).Nodup) : F.Nodup := by
  unfold List.Nodup at *
  rw [List.pairwise_map] at h
  exact h.imp fun h e => h (by rw [e])
theorem perm_mem {F G : List Hd} (hF : (F.map hp).Nodup) (hG : (G.map hp).Nodup) (h : ∀ x, x ∈ F ↔ x ∈ G) : F.Perm G := (List.perm_ext_iff_of_nodup (nodup_of hF) (nodup_of hG)).2 h
theorem putF_perm {F G : List Hd} (hn : (F.map hp).Nodup) (h : F.Perm G) (n : Hd) : (putF F n).Perm (putF G n) :=
  perm_mem (putF_nd hn) (putF_nd ((h.map _).nodup_iff.1 hn)) fun x => by rw [mem_putF, mem_putF, h.mem_iff]
theorem delF_perm {F G : List Hd} (hn : (F.map hp).Nodup) (h : F.Perm G) (p : Pr) : (delF F p).Perm (delF G p) :=
  perm_mem (delF_nd hn) (delF_nd ((h.map _).nodup_iff.1 hn)) fun x => by rw [mem_delF, mem_delF, h.mem_iff]
/-- The destinations are in order: each once, each with its own. -/
structure Good (L : List Ob) : Prop where
  nd : (L.map Ob.d).Nodup
  own : ∀ o ∈ L, ∀ h ∈ o.S, h.e.p.d = o.d
  ins : ∀ o ∈ L, (o.S.map mI.key).Nodup
theorem Good.nodup {L : List Ob} (g : Good L) : ((flat L).map hp).Nodup := by
  unfold List.Nodup flat
  rw [List.pairwise_map, List.pairwise_flatMap]
  refine ⟨fun o ho => ?_, ?_⟩
  · have h := g.ins o ho
    unfold List.Nodup at h
    rw [List.pairwise_map] at h
    exact h.imp fun h e => h (by show _ = _; rw [show mI.key _ = (hp _).s from rfl, e]; rfl)
  · have h := g.nd
    unfold List.Nodup at h
    rw [List.pairwise_map] at h
    refine List.Pairwise.imp_of_mem ?_ h
    intro o o' ho ho' hne x hx y hy e
    apply hne
    rw [← g.own o ho x hx, ← g.own o' ho' y hy]
    exact congrArg Pr.d e
theorem nd_one {L : List Ob} (h : (L.map Ob.d).Nodup) {o o' : Ob} (ho : o ∈ L) (ho' : o' ∈ L) (e : o.d = o'.d) : o = o' := by
  obtain ⟨i, hi, rfl⟩ := List.getElem_of_mem ho
  obtain ⟨j, hj, rfl⟩ := List.getElem_of_mem ho'
  have : i = j := (List.getElem_inj (i := i) (j := j) (h₀ := by simpa using hi) (h₁ := by simpa using hj) h).1 (by simpa using e)
  subst this; rfl
/-- What is held of a pair, by way of its destination. -/
def atR (L : List Ob) (p : Pr) : Option Hd := (getN mO L p.d).bind fun o => getN mI o.S p.s
theorem at_fnd {L : List Ob} (g : Good L) (p : Pr) : atR L p = fnd (flat L) p := by
  apply Option.ext
  intro x
  rw [fnd_some g.nodup]
  unfold atR
  rw [Option.bind_eq_some_iff]
  constructor
  · rintro ⟨o, h1, h2⟩
    obtain ⟨ho, e1⟩ := getN_some h1
    obtain ⟨hx, e2⟩ := getN_some h2
    refine ⟨mem_flat.2 ⟨o, ho, hx⟩, ?_⟩
    have e3 := g.own o ho x hx
    show x.e.p = p
    cases hq : x.e.p with | mk d s =>
    cases p with | mk d' s' =>
    have e1' : o.d = d' := e1
    have e2' : x.e.p.s = s' := e2
    rw [hq] at e3 e2'
    dsimp only at e3 e2'
    rw [e2', e3, e1']
  · rintro ⟨hx, rfl⟩
    obtain ⟨o, ho, hxo⟩ := mem_flat.1 hx
    have e3 := g.own o ho x hxo
    refine ⟨o, ?_, ?_⟩
    · cases hg : getN mO L (hp x).d with
      | none =>
        have := getN_none hg o ho
        rw [keyB_iff.2 (show mO.key o = (hp x).d from e3.symm)] at this
        cases this
      | some o' =>
        obtain ⟨ho', e⟩ := getN_some hg
        have e' : o'.d = (hp x).d := e
        rw [nd_one g.nd ho ho' (by rw [e', ← e3]; rfl)]
    · cases hg : getN mI o.S (hp x).s with
      | none =>
        have := getN_none hg x hxo
        rw [keyB_iff.2 (show mI.key x = (hp x).s from rfl)] at this
        cases this
      | some y =>
        obtain ⟨hy, e⟩ := getN_some hg
        have hn := g.ins o ho
        obtain ⟨i, hi, rfl⟩ := List.getElem_of_mem hy
        obtain ⟨j, hj, rfl⟩ := List.getElem_of_mem hxo
        have : i = j := (List.getElem_inj (i := i) (j := j) (h₀ := by simpa using hi) (h₁ := by simpa using hj) hn).1 (by have e' : mI.key o.S[i] = mI.key o.S[j] := e; simpa using e')
        subst this; rfl
/-- A destination's own are others now. -/
def upS (L : List Ob) (d : Pf) (S : List Hd) : List Ob := L.map fun o => if pB o.d d then { o with S := S } else o
theorem mem_upS {L : List Ob} {d : Pf} {S : List Hd} {o : Ob} (hn : (L.map Ob.d).Nodup) (ho : o ∈ L) (hd : o.d = d) {x : Ob} : x ∈ upS L d S ↔ x = { o with S := S } ∨ x ∈ L ∧ x.d ≠ d := by
  unfold upS
  rw [List.mem_map]
  constructor
  · rintro ⟨m, hm, rfl⟩
    cases hb : pB m.d d
    · exact .inr ⟨by simpa using hm, by simpa using pB_no.1 hb⟩
    · have := nd_one hn hm ho (by rw [pB_iff.1 hb, hd])
      subst this
      exact .inl (by simp)
  · rintro (rfl | ⟨h1, h2⟩)
    · exact ⟨o, ho, by rw [if_pos (pB_iff.2 hd)]⟩
    · exact ⟨x, h1, by rw [if_neg (by rw [pB_no.2 h2]; simp)]⟩
theorem upS_d (L : List Ob) (d : Pf) (S : List Hd) : (upS L d S).map Ob.d = L.map Ob.d := by
  unfold upS
  rw [List.map_map]
  apply List.map_congr_left
  intro o _
  simp only [Function.comp_def]
  split <;> rfl
theorem upS_r (L : List Ob) (d : Pf) (S : List Hd) : (upS L d S).map Ob.r = L.map Ob.r := by
  unfold upS
  rw [List.map_map]
  apply List.map_congr_left
  intro o _
  simp only [Function.comp_def]
  split <;> rfl
theorem upS_kv (L : List Ob) (d : Pf) (S : List Hd) : (upS L d S).map (fun n => (mO.key n, mO.val n)) = L.map (fun n => (mO.key n, mO.val n)) := by
  unfold upS
  rw [List.map_map]
  apply List.map_congr_left
  intro o _
  simp only [Function.comp_def]
  split <;> rfl
theorem Good.put {L : List Ob} (g : Good L) {o : Ob} (ho : o ∈ L) {n : Hd} (hd : o.d = (hp n).d) : Good (upS L o.d (putN mI o.S n)) ∧ (flat (upS L o.d (putN mI o.S n))).Perm (putF (flat L) n) := by
  have hm := fun x => mem_upS (S := putN mI o.S n) g.nd ho rfl (x := x)
  have g' : Good (upS L o.d (putN mI o.S n)) := by
    refine ⟨by rw [upS_d]; exact g.nd, ?_, ?_⟩
    · intro x hx h hh
      rcases (hm x).1 hx with rfl | ⟨h1, _⟩
      · rcases mem_putN.1 hh with rfl | ⟨h2, _⟩
        · exact hd.symm
        · exact g.own o ho h h2
      · exact g.own x h1 h hh
    · intro x hx
      rcases (hm x).1 hx with rfl | ⟨h1, _⟩
      · exact putN_nd (g.ins o ho)
      · exact g.ins x h1
  refine ⟨g', perm_mem g'.nodup (putF_nd g.nodup) fun x => ?_⟩
  rw [mem_flat, mem_putF, mem_flat]
  constructor
  · rintro ⟨u, hu, hx⟩
    rcases (hm u).1 hu with rfl | ⟨h1, h2⟩
    · rcases mem_putN.1 hx with rfl | ⟨h2, h3⟩
      · exact .inl rfl
      · refine .inr ⟨⟨o, ho, h2⟩, fun e => ?_⟩
        rw [keyB_iff.2 (show mI.key x = mI.key n from congrArg Pr.s e)] at h3
        cases h3
    · exact .inr ⟨⟨u, h1, hx⟩, fun e => h2 (by rw [← g.own u h1 x hx, hd]; exact congrArg Pr.d e)⟩
  · rintro (rfl | ⟨⟨u, hu, hx⟩, hne⟩)
    · exact ⟨_, (hm _).2 (.inl rfl), mem_putN.2 (.inl rfl)⟩
    · by_cases hud : u.d = o.d
      · have := nd_one g.nd hu ho hud
        subst this
        refine ⟨_, (hm _).2 (.inl rfl), mem_putN.2 (.inr ⟨hx, ?_⟩)⟩
        cases hb : keyB mI (mI.key n) x
        · rfl
        · exfalso
          apply hne
          have e1 : x.e.p.s = n.e.p.s := keyB_iff.1 hb
          have e2 : x.e.p.d = n.e.p.d := by rw [g.own u hu x hx, hd]; rfl
          show x.e.p = n.e.p
          cases hq : x.e.p; cases hr : n.e.p
          rw [hq, hr] at e1 e2
          dsimp only at e1 e2
          rw [e1, e2]
      · exact ⟨u, (hm u).2 (.inr ⟨hu, hud⟩), hx⟩
theorem Good.new {L : List Ob} (g : Good L) {d : Pf} (hd : getN mO L d = none) (r : Nat) : Good (L ++ [⟨d, some r, []⟩]) ∧ flat (L ++ [⟨d, some r, []⟩]) = flat L := by
  have hne : ∀ o ∈ L, o.d ≠ d := fun o ho e => by
    have := getN_none hd o ho
    rw [keyB_iff.2 (show mO.key o = d from e)] at this
    cases this
  refine ⟨⟨?_, ?_, ?_⟩, by simp [flat]⟩
  · rw [List.map_append, List.nodup_append]
    refine ⟨g.nd, by simp, ?_⟩
    intro a ha b hb
    obtain ⟨o, ho, rfl⟩ := List.mem_map.1 ha
    simp at hb
    subst hb
    exact hne o ho
  · intro o ho h hh
    rcases List.mem_append.1 ho with h1 | h1
    · exact g.own o h1 h hh
    · simp at h1; subst h1; cases hh
  · intro o ho
    rcases List.mem_append.1 ho with h1 | h1
    · exact g.ins o h1
    · simp at h1; subst h1; simp
theorem putO_none {L : List Ob} {n : Ob} (hd : getN mO L n.d = none) : putN mO L n = L ++ [n] := by
  unfold putN
  rw [if_neg]
  intro h
  obtain ⟨o, ho, hb⟩ := List.any_eq_true.1 h
  have := getN_none hd o ho
  rw [show keyB mO n.d o = true from hb] at this
  cases this
theorem Good.del {L : List Ob} (g : Good L) {o : Ob} (ho : o ∈ L) {p : Pr} (hd : o.d = p.d) : Good (upS L o.d (delN mI o.S p.s)) ∧ (flat (upS L o.d (delN mI o.S p.s))).Perm (delF (flat L) p) := by
  have hm := fun x => mem_upS (S := delN mI o.S p.s) g.nd ho rfl (x := x)
  have g' : Good (upS L o.d (delN mI o.S p.s)) := by
    refine ⟨by rw [upS_d]; exact g.nd, ?_, ?_⟩
    · intro x hx h hh
      rcases (hm x).1 hx with rfl | ⟨h1, _⟩
      · exact g.own o ho h (mem_delN.1 hh).1
      · exact g.own x h1 h hh
    · intro x hx
      rcases (hm x).1 hx with rfl | ⟨h1, _⟩
      · exact List.Sublist.nodup (List.Sublist.map _ List.filter_sublist) (g.ins o ho)
      · exact g.ins x h1
  refine ⟨g', perm_mem g'.nodup (delF_nd g.nodup) fun x => ?_⟩
  rw [mem_flat, mem_delF, mem_flat]
  constructor
  · rintro ⟨u, hu, hx⟩
    rcases (hm u).1 hu with rfl | ⟨h1, h2⟩
    · obtain ⟨h2, h3⟩ := mem_delN.1 hx
      refine ⟨⟨o, ho, h2⟩, fun e => ?_⟩
      rw [keyB_iff.2 (show mI.key x = p.s from congrArg Pr.s e)] at h3
      cases h3
    · exact ⟨⟨u, h1, hx⟩, fun e => h2 (by rw [← g.own u h1 x hx, hd]; exact congrArg Pr.d e)⟩
  · rintro ⟨⟨u, hu, hx⟩, hne⟩
    by_cases hud : u.d = o.d
    · have := nd_one g.nd hu ho hud
      subst this
      refine ⟨_, (hm _).2 (.inl rfl), mem_delN.2 ⟨hx, ?_⟩⟩
      cases hb : keyB mI p.s x
      · rfl
      · exfalso
        apply hne
        have e1 : x.e.p.s = p.s := keyB_iff.1 hb
        have e2 : x.e.p.d = p.d := by rw [g.own u hu x hx, hd]
        show x.e.p = p
        cases hq : x.e.p; cases p
        rw [hq] at e1 e2
        dsimp only at e1 e2
        rw [e1, e2]
    · exact ⟨u, (hm u).2 (.inr ⟨hu, hud⟩), hx⟩
theorem Good.drop {L : List Ob} (g : Good L) {o : Ob} (ho : o ∈ L) (he : o.S = []) : Good (delN mO L o.d) ∧ flat (delN mO L o.d) = flat L := by
  have hs : (delN mO L o.d).Sublist L := List.filter_sublist
  refine ⟨⟨List.Sublist.nodup (hs.map _) g.nd, fun x hx => g.own x (hs.subset hx), fun x hx => g.ins x (hs.subset hx)⟩, ?_⟩
  have hk : ∀ x ∈ L, keyB mO o.d x = true → x.S = [] := fun x hx hb => by
    have := nd_one g.nd hx ho (keyB_iff.1 hb)
    subst this; exact he
  clear hs g ho he
  unfold flat delN
  induction L with
  | nil => rfl
  | cons x L ih =>
    have ih' := ih fun y hy => hk y (List.mem_cons_of_mem _ hy)
    rw [List.filter_cons]
    cases hb : keyB mO o.d x
    · simp only [Bool.not_false, if_true, List.flatMap_cons]
      rw [ih']
    · simp only [Bool.not_true, List.flatMap_cons]
      rw [hk x (by simp) hb]
      simpa using ih'
end Go.Proofs.Ytadnnjngflphjaa
