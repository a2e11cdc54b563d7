/-
  Next of a table that is there.
-/
import Derived.Test.YthofoocknmkdjaaM11
import Derived.Test.YthofoocknmkdjaaM18
import Derived.Test.YthofoocknmkdjaaM19
import Derived.Test.YthofoocknmkdjaaM20
import Derived.Test.YthofoocknmkdjaaM21
import Derived.Test.YthofoocknmkdjaaM17
import Derived.Test.YthofoocknmkdjaaM13
namespace Go.Proofs.Ythofoocknmkdjaa
open Go.RowKit Go.Maps Go.Shelf
set_option linter.unusedSimpArgs false
set_option linter.unusedVariables false
set_option maxRecDepth 20000
set_option maxHeartbeats 8000000 in
theorem next_any {w : World} {t mb : Nat} {most : Int} {L : List Ro} (h : Tb w t mb most L) : Calls Try.prog 19 #[.pointer (some ⟨t, 0, none⟩)] w fun e w' => ∃ f b, e = .returned (.tuple #[.int .i64 f, .bool b]) ∧ NextIs L f b ∧ Below w.heap.size w w' := by
  have hm := h.map
  obtain ⟨D, hown, hsz, hhas, hat⟩ := hm.ex
  have hwf := hm.wf
  have hnd := hm.nd
  have c2 : w.cell? ⟨t, 1, none⟩ = some (.map (some mb)) := h.row.cell 1
  clear hm h
  go_enter Try.func19, Try.ntmps19
  go_wp2_with (first
    | (at_range; refine wpList_range_own _ rfl _ 74 rfl 84 41 keyLaw Try.underlying74 elV mb L.length D rfl hown ?_; intro w0 hrg0 hg0 hs0))
  go_frame
  go_loopw [4, 5] (fun v u wr => ∃ (f : Int) (b : Bool) (left : Lit → Bool) (cnt : Nat) (ss : List Ro), v = .int .i64 f ∧ u = .bool b ∧ wr.ranges Try.prog 84 elV mb w.heap.size L.length D left cnt ∧ Coll L left ss ∧ NextIs ss f b ∧ Below w.heap.size w wr)
    (fun _ _ wr => wr.rangeLeft mb w.heap.size)
  case atStart => exact ⟨0, false, _, _, [], rfl, rfl, hrg0, ⟨L, by simp, hhas⟩, .inl ⟨rfl, rfl, rfl⟩, below_keepO (Below.refl _ _) hg0 (by simp) (Nat.le_refl _)⟩
  case round =>
    clear hrg0 hg0 hown hhas hsz c2
    obtain ⟨f, b, left, cnt, ss, rfl, rfl, hrg, hC, hN, hB⟩ := hrel
    go_wp2_with (first
      | (at_next; refine wpList_next_ranges _ rfl _ rfl 84 keyLaw elV id id (fun key _ _ => ⟨key, rfl⟩) (fun v _ _ => ⟨v, rfl⟩) mb w.heap.size L.length _ _ _ rfl hrg ?_ ?_))
    · intro _ hl0
      have hN2 := hN.perm (hC.done hl0)
      clear hat hwf hnd hC hN
      go_wp2_with fail
      go_ret2
      exact ⟨f, b, rfl, hN2, hB⟩
    · intro x c lk yd yp w1 cnt1 hkey hlk hv hat1 hrg1 hlt hg1 hs1 hen
      obtain ⟨n, hnL, rfl, hC2⟩ := hC.step hwf hnd hlk
      have hc : c = rV n := by
        have e := hat1 (.held (rV n))
        rw [hat n hnL] at e
        have hv' : some (DataW.held c, ([] : List MemPlace)) = some (yd, yp) := hv
        cases hv'
        injection e with e
        exact e.symm
      subst hc
      have hB1 : Below w.heap.size w w1 := below_keepO hB hg1 (fun g hg e => by cases e; omega) hB.size
      have HC : Hid (Coll L (fun z => left z && !z.sameKey (kl n.k)) (ss ++ [n])) := hC2
      have HCN : Hid (wr.rangeLeft mb w.heap.size = cnt) := hrg.left_eq
      have HLT : Hid (cnt1 < cnt) := hlt
      have HN : Hid (NextIs ss f b) := hN
      have HGo : Hid (∀ W, Below w1.heap.size w1 W → W.ranges Try.prog 84 elV mb w.heap.size L.length D (fun z => left z && !z.sameKey (kl n.k)) cnt1 ∧ Below w.heap.size w W) := fun W hW => by
        have hg : w1.grownBy W none := ⟨hW.os, hW.tape, hW.output, hW.size, fun i hi _ => hW.block i hi⟩
        exact ⟨hrg1.kept hg (by simp) (by simp), hB1.trans (hW.mono hB1.size)⟩
      clear hC hC2 hN hrg hlt hrg1 hB hB1 hg1 hs1 hat hat1 hv hkey hlk hwf hnd
      go_upto_region 7 with (first
        | (have kk := r2; refine stS (.tmp 7) (.tmp 18) rfl rfl g2 n zeroR rfl rfl r2 ?_; intro W3 g3 r3; have b3 := grown_below g3 hB2 hge2 hB2.size; have c78 := (r3.cell 78).trans (oc78 n); clear r2)
        | (refine alG infoRz rfl rfl ?_; intro g2 W2 hge2 hgl2 hB2 r2))
      obtain ⟨hrg6, hB6⟩ := HGo.out _ b3
      cases b with
      | false =>
        have HS : Hid (ss = []) := by
          rcases HN.out with ⟨h, _⟩ | ⟨h, _⟩
          · exact h
          · cases h
        go_wp2_with fail
        go_roundw
        case rel => exact ⟨_, _, _, cnt1, ss ++ [n], rfl, rfl, hrg6, HC.out, NextIs.first HS.out, hB6⟩
        case measure => rw [hrg6.left_eq, HCN.out]; exact HLT.out
      | true =>
        by_cases hl : n.u < f
        · go_wp2_with fail
          go_roundw
          case rel => exact ⟨_, _, _, cnt1, ss ++ [n], rfl, rfl, hrg6, HC.out, HN.out.less hl, hB6⟩
          case measure => rw [hrg6.left_eq, HCN.out]; exact HLT.out
        · go_wp2_with fail
          go_roundw
          case rel => exact ⟨_, _, _, cnt1, ss ++ [n], rfl, rfl, hrg6, HC.out, HN.out.more (by omega), hB6⟩
          case measure => rw [hrg6.left_eq, HCN.out]; exact HLT.out
end Go.Proofs.Ythofoocknmkdjaa

namespace Go.Proofs.Ythofoocknmkdjaa
open Go.RowKit Go.Maps Go.Shelf
set_option linter.unusedSimpArgs false
set_option linter.unusedVariables false
set_option maxRecDepth 20000
/-- The document's list is that of the map, in order. -/
structure Rel (L K : List Ro) : Prop where
  pm : K.Perm L
  asc : Asc K
  nd : (L.map keyN).Nodup
theorem Rel.ndK {L K : List Ro} (h : Rel L K) : (K.map keyN).Nodup := (h.pm.map _).nodup_iff.2 h.nd
theorem getN_perm {L K : List Ro} (h : Rel L K) (q : Ky) : getN K q = getN L q := by
  cases hk : getN K q with
  | none =>
    cases hl : getN L q with
    | none => rfl
    | some n =>
      obtain ⟨h1, h2⟩ := getN_some hl
      have := getN_none hk n (h.pm.mem_iff.2 h1)
      rw [keyB_iff.2 h2] at this
      cases this
  | some n =>
    obtain ⟨h1, h2⟩ := getN_some hk
    cases hl : getN L q with
    | none =>
      have := getN_none hl n (h.pm.mem_iff.1 h1)
      rw [keyB_iff.2 h2] at this
      cases this
    | some m =>
      obtain ⟨k1, k2⟩ := getN_some hl
      have e : keyN n = keyN m := h2.trans k2.symm
      congr 1
      exact nd_inj h.nd (h.pm.mem_iff.1 h1) k1 e
/-- One is replaced in its place. -/
def repN (n : Ro) (m : Ro) : Ro := if keyB n.k m then n else m
theorem repN_key (n m : Ro) : keyN (repN n m) = keyN m := by
  unfold repN
  split
  · rename_i h; exact (keyN_iff.2 h).symm
  · rfl
theorem Asc.rep {K : List Ro} (h : Asc K) (n : Ro) : Asc (K.map (repN n)) := by
  unfold Asc at *
  rw [List.pairwise_map]
  refine h.imp fun {x y} hxy => ?_
  rw [(cmpN_key (repN n y) (repN_key n x)).1, (cmpN_key x (repN_key n y)).2]
  exact hxy
theorem set_rep : ∀ {K : List Ro} {k : Nat} {n n' : Ro}, (K.map keyN).Nodup → K[k]? = some n → keyB n'.k n = true → K.set k n' = K.map (repN n')
  | [], k, n, n', _, h, _ => by simp at h
  | a :: K, 0, n, n', hnd, h, hk => by
    simp at h
    subst h
    rw [List.map_cons, List.nodup_cons] at hnd
    rw [List.set_cons_zero, List.map_cons]
    congr 1
    · unfold repN; rw [hk]; rfl
    · conv => lhs; rw [← List.map_id K]
      apply List.map_congr_left
      intro x hx
      unfold repN
      have : keyB n'.k x = false := by
        cases hb : keyB n'.k x
        · rfl
        · exfalso
          have e : keyN x = keyN a := (keyB_iff.1 hb).trans (keyB_iff.1 hk).symm
          exact hnd.1 (e ▸ List.mem_map_of_mem hx)
      rw [this]
      rfl
  | a :: K, k + 1, n, n', hnd, h, hk => by
    rw [List.map_cons, List.nodup_cons] at hnd
    have h' : K[k]? = some n := by simpa using h
    rw [List.set_cons_succ, List.map_cons, set_rep hnd.2 h' hk]
    congr 1
    unfold repN
    have : keyB n'.k a = false := by
      cases hb : keyB n'.k a
      · rfl
      · exfalso
        have e : keyN n = keyN a := (keyB_iff.1 hk).trans (keyB_iff.1 hb).symm
        exact hnd.1 (e ▸ List.mem_map_of_mem (List.mem_of_getElem? h'))
    rw [this]
    rfl
theorem putN_rep {L : List Ro} {n n' : Ro} (h : n ∈ L) (hk : keyB n'.k n = true) : putN L n' = L.map (repN n') := by
  unfold putN
  rw [if_pos (List.any_eq_true.2 ⟨n, h, hk⟩)]
  rfl
theorem rel_set {L K : List Ro} {k : Nat} {n n' : Ro} (h : Rel L K) (hk : K[k]? = some n) (he : keyB n'.k n = true) : Rel (putN L n') (K.set k n') := by
  have hm : n ∈ L := h.pm.mem_iff.1 (List.mem_of_getElem? hk)
  refine ⟨?_, ?_, putN_nd h.nd⟩
  · rw [set_rep h.ndK hk he, putN_rep hm he]
    exact h.pm.map _
  · rw [set_rep h.ndK hk he]
    exact h.asc.rep n'
theorem rel_ins {L K : List Ro} {k : Nat} {n : Ro} (h : Rel L K) (hi : InsP K n k) (hno : ∀ x ∈ K, keyB n.k x = false) : Rel (putN L n) (K.take k ++ n :: K.drop k) := by
  have hL : putN L n = L ++ [n] := by
    unfold putN
    rw [if_neg]
    intro hc
    obtain ⟨x, hx, hb⟩ := List.any_eq_true.1 hc
    rw [hno x (h.pm.mem_iff.2 hx)] at hb
    cases hb
  have hlo : ∀ x ∈ K.take k, cmpN x n < 0 := by
    intro x hx
    have hk0 : 0 < k := by
      cases k with
      | zero => simp at hx
      | succ k => omega
    have hkl : k - 1 < K.length := by have := hi.le; omega
    have h1 := hi.lo K[k - 1] hk0 (List.getElem?_eq_getElem hkl)
    have h2 : cmpN K[k - 1] n ≠ 0 := fun e => by
      have := (cmpN_zero _ _).1 e
      have h3 := hno K[k - 1] (List.getElem_mem hkl)
      rw [keyN_iff.1 this] at h3
      cases h3
    have h4 : cmpN K[k - 1] n < 0 := by omega
    obtain ⟨a, ha, rfl⟩ := List.mem_take_iff_getElem.1 hx
    by_cases e : a = k - 1
    · subst e; exact h4
    · have := (List.pairwise_iff_getElem.1 h.asc) a (k - 1) (by omega) hkl (by omega)
      exact cmpN_trans _ _ _ this h4
  have hhi : ∀ x ∈ K.drop k, cmpN n x < 0 := fun x hx => by
    have := hi.hi x hx
    have := cmpN_neg n x
    omega
  refine ⟨?_, ?_, putN_nd h.nd⟩
  · rw [hL]
    refine (List.perm_middle).trans ?_
    rw [List.take_append_drop]
    exact (h.pm.cons n).trans (List.perm_append_comm (l₁ := [n]) (l₂ := L))
  · unfold Asc
    rw [List.pairwise_append, List.pairwise_cons]
    refine ⟨List.Pairwise.sublist (List.take_sublist _ _) h.asc, ⟨hhi, List.Pairwise.sublist (List.drop_sublist _ _) h.asc⟩, fun x hx y hy => ?_⟩
    rcases List.mem_cons.1 hy with rfl | hy
    · exact hlo x hx
    · exact cmpN_trans _ _ _ (hlo x hx) (hhi y hy)
theorem rel_filter {L K : List Ro} (h : Rel L K) (q : Ro → Bool) : Rel (L.filter q) (K.filter q) :=
  ⟨h.pm.filter _, h.asc.filter _, List.Nodup.sublist (List.Sublist.map _ List.filter_sublist) h.nd⟩
/-- What keeps the keys keeps the order. -/
theorem rel_map {L K : List Ro} (h : Rel L K) (f : Ro → Ro) (hf : ∀ n, (f n).k = n.k) : Rel (L.map f) (K.map f) := by
  have hk : ∀ n, keyN (f n) = keyN n := hf
  refine ⟨h.pm.map _, ?_, ?_⟩
  · unfold Asc
    rw [List.pairwise_map]
    refine h.asc.imp fun {x y} hxy => ?_
    rw [(cmpN_key (f y) (hk x)).1, (cmpN_key x (hk y)).2]
    exact hxy
  · have e : L.map (keyN ∘ f) = L.map keyN := List.map_congr_left fun x _ => hk x
    rw [List.map_map, e]
    exact h.nd
theorem rel_list {L K G : List Ro} (h : Rel L K) (hp : G.Perm L) (ha : Asc G) : G = K := Asc.unique ha h.asc (hp.trans h.pm.symm)
theorem rel_next {L K : List Ro} (h : Rel L K) {f g : Int} {b c : Bool} (h1 : NextIs L f b) (h2 : NextIs K g c) : f = g ∧ b = c := (h1.perm h.pm.symm).uniq h2
theorem rel_count {L K : List Ro} (h : Rel L K) (q : Ro → Bool) : K.countP q = L.countP q := h.pm.countP_eq q
theorem rel_tell {most : Int} {L K K' : List Ro} {now : Int} {n : Ro} {f : Bool} {z e : Int} (h : Rel L K) (hk : RtP most K now n f z e K') : z = (tellR most L now n f).1 ∧ e = (tellR most L now n f).2.1 ∧ Rel (tellR most L now n f).2.2 K' := by
  have hg := getN_perm h n.k
  have hlen := h.pm.length_eq
  unfold tellR
  rcases hk with ⟨h1, rfl, rfl, rfl⟩ | ⟨h1, h2, h3, rfl, rfl, rfl⟩ | ⟨h1, h2, h3, h4, rfl, rfl, rfl⟩ | ⟨h1, h2, h3, h4, rfl, rfl, k, h5, rfl⟩ | ⟨h1, k, old, h2, h3, h4, rfl, rfl, rfl⟩ | ⟨h1, k, old, h2, h3, h4, rfl, rfl, rfl⟩
  · rw [if_pos h1]
    exact ⟨rfl, rfl, h⟩
  · rw [hg] at h2
    rw [if_neg h1, h2]
    dsimp only
    unfold tellNewR
    rw [if_pos h3]
    exact ⟨rfl, rfl, h⟩
  · rw [hg] at h2
    rw [if_neg h1, h2]
    dsimp only
    unfold tellNewR
    rw [if_neg h3, if_pos (by omega)]
    exact ⟨rfl, rfl, h⟩
  · have h2' := h2
    rw [hg] at h2
    rw [if_neg h1, h2]
    dsimp only
    unfold tellNewR
    rw [if_neg h3, if_neg (by omega)]
    exact ⟨rfl, rfl, rel_ins h h5 (fun x hx => getN_none h2' x hx)⟩
  · rw [hg] at h3
    rw [if_neg h1, h3]
    dsimp only
    rw [if_pos h4]
    exact ⟨rfl, rfl, h⟩
  · have h3' := h3
    rw [hg] at h3
    rw [if_neg h1, h3]
    dsimp only
    rw [if_neg (by rw [h4]; simp)]
    refine ⟨rfl, rfl, rel_set h h2 ?_⟩
    rw [keyB_iff, retold_k]
theorem rel_retract {L K : List Ro} (h : Rel L K) (i : Int) (a : Ad) (now : Int) : Rel (mapR (fun n => retr n now) (mineB i a) L) (mapR (fun n => retr n now) (mineB i a) K) :=
  rel_map h (fun n => if mineB i a n = true then retr n now else n) fun n => by split <;> rfl
theorem rel_un {L K : List Ro} (h : Rel L K) (p : Pr) : Rel (unR p L) (unR p K) :=
  rel_map h (fun n => if selB p n = true then offN n else n) fun n => by split <;> rfl
end Go.Proofs.Ythofoocknmkdjaa

namespace Go.Proofs.Ythofoocknmkdjaa
open Go.RowKit Go.Maps Go.Shelf
set_option linter.unusedSimpArgs false
set_option linter.unusedVariables false
set_option maxRecDepth 20000
theorem nd_of_keys {L : List Ro} (h : (L.map keyN).Nodup) : L.Nodup := List.Pairwise.imp (fun hab e => hab (by rw [e])) (List.pairwise_map.1 h)
theorem key_ne {n y : Ro} : keyB n.k y = false ↔ keyN y ≠ keyN n := by
  constructor
  · intro h e
    rw [keyN_iff.1 e] at h
    cases h
  · intro h
    cases hb : keyB n.k y with
    | false => rfl
    | true => exact absurd (keyN_iff.2 hb) h
theorem mem_delN {L : List Ro} {n x : Ro} : x ∈ delN L n.k ↔ x ∈ L ∧ keyN x ≠ keyN n := by
  unfold delN
  rw [List.mem_filter]
  constructor
  · rintro ⟨h1, h2⟩
    exact ⟨h1, key_ne.1 (by simpa using h2)⟩
  · rintro ⟨h1, h2⟩
    exact ⟨h1, by rw [key_ne.2 h2]; rfl⟩
theorem exp_key (n : Ro) : keyN (expN n) = keyN n := expN_k n
theorem mem_tickS {L : List Ro} {now : Int} {n x : Ro} (hn : n ∈ L) : x ∈ tickS now L n ↔ (x ∈ L ∧ keyN x ≠ keyN n) ∨ (lateB now (expN n) = false ∧ (x = expN n ∨ (n.r = 65535 ∧ x ∈ L ∧ keyN x = keyN n))) := by
  have hput : ∀ y, y ∈ putN L (expN n) ↔ y = expN n ∨ (y ∈ L ∧ keyN y ≠ keyN n) := fun y => by
    rw [mem_putN]
    have e : (expN n).k = n.k := expN_k n
    rw [e, key_ne]
  have hall : ∀ y, y ∈ L ↔ (y ∈ L ∧ keyN y ≠ keyN n) ∨ (y ∈ L ∧ keyN y = keyN n) := fun y => by
    by_cases h : keyN y = keyN n <;> simp [h]
  unfold tickS
  cases hl : lateB now (expN n) with
  | true =>
    rw [if_pos rfl]
    by_cases hr : n.r = 65535
    · rw [if_pos hr, mem_delN]
      simp
    · rw [if_neg hr, mem_delN, hput]
      constructor
      · rintro ⟨h1 | h1, h2⟩
        · rw [h1, exp_key] at h2
          exact absurd rfl h2
        · exact .inl h1
      · rintro (h1 | ⟨h1, _⟩)
        · exact ⟨.inr h1, h1.2⟩
        · cases h1
  | false =>
    rw [if_neg (by simp)]
    by_cases hr : n.r = 65535
    · rw [if_pos hr]
      have hx : expN n = n := by unfold expN; rw [if_pos hr]
      constructor
      · intro h1
        rcases (hall x).1 h1 with h2 | h2
        · exact .inl h2
        · exact .inr ⟨rfl, .inr ⟨hr, h2⟩⟩
      · rintro (h1 | ⟨_, h1 | ⟨_, h1⟩⟩)
        · exact h1.1
        · rw [h1, hx]; exact hn
        · exact h1.1
    · rw [if_neg hr, hput]
      constructor
      · rintro (h1 | h1)
        · exact .inr ⟨rfl, .inl h1⟩
        · exact .inl h1
      · rintro (h1 | ⟨_, h1 | ⟨h1, _⟩⟩)
        · exact .inr h1
        · exact .inl h1
        · exact absurd h1 hr
/-- With keys that are apart: the route itself, or what has become of it. -/
theorem mem_tickS2 {L : List Ro} {now : Int} {n x : Ro} (hnd : (L.map keyN).Nodup) (hn : n ∈ L) : x ∈ tickS now L n ↔ (x ∈ L ∧ keyN x ≠ keyN n) ∨ (lateB now (expN n) = false ∧ x = expN n) := by
  rw [mem_tickS hn]
  constructor
  · rintro (h | ⟨h1, h2 | ⟨h3, h4, h5⟩⟩)
    · exact .inl h
    · exact .inr ⟨h1, h2⟩
    · have e : x = n := nd_inj hnd h4 hn h5
      refine .inr ⟨h1, ?_⟩
      rw [e]
      unfold expN
      rw [if_pos h3]
  · rintro (h | ⟨h1, h2⟩)
    · exact .inl h
    · exact .inr ⟨h1, .inl h2⟩
theorem tickS_nd {L : List Ro} {now : Int} {n : Ro} (hnd : (L.map keyN).Nodup) : ((tickS now L n).map keyN).Nodup := by
  have hd : ∀ {M : List Ro}, (M.map keyN).Nodup → ((delN M n.k).map keyN).Nodup := fun h => List.Nodup.sublist (List.Sublist.map _ List.filter_sublist) h
  unfold tickS
  split
  · apply hd
    split
    · exact hnd
    · exact putN_nd hnd
  · split
    · exact hnd
    · exact putN_nd hnd
theorem mem_tickR {now : Int} : ∀ {G L : List Ro} {x : Ro}, (L.map keyN).Nodup → (G.map keyN).Nodup → (∀ g ∈ G, g ∈ L) → (x ∈ tickR now L G ↔ (x ∈ L ∧ ∀ g ∈ G, keyN x ≠ keyN g) ∨ ∃ g ∈ G, lateB now (expN g) = false ∧ x = expN g)
  | [], L, x, _, _, _ => by simp [tickR]
  | n :: G, L, x, hL, hnd, hsub => by
    rw [List.map_cons, List.nodup_cons] at hnd
    have hne : ∀ g ∈ G, keyN g ≠ keyN n := fun g hg e => hnd.1 (e ▸ List.mem_map_of_mem hg)
    have hnL := hsub n (by simp)
    have ih := mem_tickR (now := now) (G := G) (L := tickS now L n) (x := x) (tickS_nd hL) hnd.2 (fun g hg => (mem_tickS2 hL hnL).2 (.inl ⟨hsub g (List.mem_cons_of_mem _ hg), hne g hg⟩))
    show x ∈ tickR now (tickS now L n) G ↔ _
    rw [ih, mem_tickS2 hL hnL]
    constructor
    · rintro (⟨⟨h1, h2⟩ | ⟨h1, rfl⟩, h3⟩ | ⟨g, hg, h1, h2⟩)
      · refine .inl ⟨h1, fun g hg => ?_⟩
        rcases List.mem_cons.1 hg with rfl | hg
        · exact h2
        · exact h3 g hg
      · exact .inr ⟨n, by simp, h1, rfl⟩
      · exact .inr ⟨g, List.mem_cons_of_mem _ hg, h1, h2⟩
    · rintro (⟨h1, h2⟩ | ⟨g, hg, h1, rfl⟩)
      · exact .inl ⟨.inl ⟨h1, h2 n (by simp)⟩, fun g hg => h2 g (List.mem_cons_of_mem _ hg)⟩
      · rcases List.mem_cons.1 hg with rfl | hg
        · exact .inl ⟨.inr ⟨h1, rfl⟩, fun g' hg' e => hne g' hg' (by rw [← e, exp_key])⟩
        · exact .inr ⟨g, hg, h1, rfl⟩
theorem up_key (n : Ro) (now : Int) : keyN (upT now n) = keyN n := by
  unfold upT
  split
  · exact exp_key n
  · rfl
theorem rel_tick {L K G : List Ro} {now : Int} (h : Rel L K) (hp : G.Perm (L.filter (lateB now))) (ha : Asc G) (hnd : ((tickR now L G).map keyN).Nodup) : expR G = exT now K ∧ goneR now G = goT now K ∧ Rel (tickR now L G) (leftT now K) := by
  have hG : G = K.filter (lateB now) := Asc.unique ha (h.asc.filter _) (hp.trans (h.pm.filter _).symm)
  have hGn : (G.map keyN).Nodup := by
    rw [hG]
    exact List.Nodup.sublist (List.Sublist.map _ List.filter_sublist) h.ndK
  have hGs : ∀ g ∈ G, g ∈ L := fun g hg => (List.mem_filter.1 (hp.mem_iff.1 hg)).1
  have hGl : ∀ g, g ∈ G ↔ g ∈ L ∧ lateB now g = true := fun g => by rw [hp.mem_iff, List.mem_filter]
  have hlk : (leftT now K).map keyN = (K.filter (stayT now)).map keyN := by
    unfold leftT
    rw [List.map_map]
    exact List.map_congr_left fun x _ => up_key x now
  have hln : ((leftT now K).map keyN).Nodup := by
    rw [hlk]
    exact List.Nodup.sublist (List.Sublist.map _ List.filter_sublist) h.ndK
  refine ⟨by rw [hG]; rfl, by rw [hG]; rfl, ⟨?_, ?_, hnd⟩⟩
  · rw [List.perm_ext_iff_of_nodup (nd_of_keys hln) (nd_of_keys hnd)]
    intro x
    rw [mem_tickR h.nd hGn hGs]
    unfold leftT
    rw [List.mem_map]
    constructor
    · rintro ⟨n, hn, rfl⟩
      obtain ⟨h1, h2⟩ := List.mem_filter.1 hn
      have hnL : n ∈ L := h.pm.mem_iff.1 h1
      unfold upT
      cases hl : lateB now n with
      | true =>
        rw [if_pos rfl]
        refine .inr ⟨n, (hGl n).2 ⟨hnL, hl⟩, ?_, rfl⟩
        unfold stayT at h2
        rw [hl] at h2
        simpa using h2
      | false =>
        rw [if_neg (by simp)]
        refine .inl ⟨hnL, fun g hg e => ?_⟩
        obtain ⟨g1, g2⟩ := (hGl g).1 hg
        have := nd_inj h.nd hnL g1 e
        rw [this, g2] at hl
        cases hl
    · rintro (⟨h1, h2⟩ | ⟨g, hg, h1, rfl⟩)
      · have hl : lateB now x = false := by
          cases hl : lateB now x with
          | false => rfl
          | true => exact absurd rfl (h2 x ((hGl x).2 ⟨h1, hl⟩))
        refine ⟨x, List.mem_filter.2 ⟨h.pm.mem_iff.2 h1, by unfold stayT; rw [hl]; rfl⟩, ?_⟩
        unfold upT
        rw [hl, if_neg (by simp)]
      · obtain ⟨g1, g2⟩ := (hGl g).1 hg
        refine ⟨g, List.mem_filter.2 ⟨h.pm.mem_iff.2 g1, by unfold stayT; rw [g2, h1]; rfl⟩, ?_⟩
        unfold upT
        rw [g2, if_pos rfl]
  · unfold Asc leftT
    rw [List.pairwise_map]
    refine (h.asc.filter (stayT now)).imp fun {x y} hxy => ?_
    rw [(cmpN_key (upT now y) (up_key x now)).1, (cmpN_key x (up_key y now)).2]
    exact hxy
end Go.Proofs.Ythofoocknmkdjaa

namespace Go.Proofs.Ythofoocknmkdjaa
open Go.RowKit Go.Maps Go.Shelf
set_option linter.unusedSimpArgs false
set_option linter.unusedVariables false
set_option maxRecDepth 20000
def OneK (L : List Ro) : Prop := ∀ m ∈ L, ∀ n ∈ L, m.s = true → n.s = true → m.p = n.p → m.k = n.k
theorem OneK.one {L : List Ro} (h : OneK L) (hnd : (L.map keyN).Nodup) : OneS L := fun m hm n hn a b c => nd_inj hnd hm hn (by unfold keyN; rw [h m hm n hn a b c])
theorem OneK.of {L L' : List Ro} (h : OneK L) (hm : ∀ x ∈ L', x.s = true → ∃ y ∈ L, y.k = x.k ∧ y.s = true) : OneK L' := by
  intro m hm1 n hn1 a b c
  obtain ⟨m', hm', e1, s1⟩ := hm m hm1 a
  obtain ⟨n', hn', e2, s2⟩ := hm n hn1 b
  rw [← e1, ← e2]
  refine h m' hm' n' hn' s1 s2 ?_
  have p1 : m'.p = m.p := by rw [show m'.p = m'.k.p from rfl, e1]; rfl
  have p2 : n'.p = n.p := by rw [show n'.p = n'.k.p from rfl, e2]; rfl
  rw [p1, p2, c]
theorem OneK.mapR {L : List Ro} (h : OneK L) (f : Ro → Ro) (so : Ro → Bool) (hk : ∀ n, (f n).k = n.k) (hs : ∀ n, (f n).s = true → n.s = true) : OneK (Go.Proofs.Ythofoocknmkdjaa.mapR f so L) := by
  refine h.of fun x hx a => ?_
  obtain ⟨m, hm, rfl⟩ := List.mem_map.1 hx
  refine ⟨m, hm, ?_, ?_⟩
  · split
    · exact (hk m).symm
    · rfl
  · split at a
    · exact hs m a
    · exact a
theorem OneK.filter {L : List Ro} (h : OneK L) (q : Ro → Bool) : OneK (L.filter q) := h.of fun x hx a => ⟨x, (List.mem_filter.1 hx).1, rfl, a⟩
theorem retold_s (old n : Ro) (now : Int) : (retold old now n).s = old.s := by
  unfold retold
  split <;> rfl
theorem OneK.tell {L : List Ro} (h : OneK L) (most now : Int) (n : Ro) (f : Bool) : OneK (tellR most L now n f).2.2 := by
  unfold tellR
  split
  · exact h
  · cases hg : getN L n.k with
    | none =>
      dsimp only
      unfold tellNewR
      split
      · exact h
      · split
        · exact h
        · refine h.of fun x hx a => ?_
          rcases mem_putN.1 hx with e | e
          · rw [e] at a; cases a
          · exact ⟨x, e.1, rfl, a⟩
    | some old =>
      dsimp only
      split
      · exact h
      · refine h.of fun x hx a => ?_
        rcases mem_putN.1 hx with e | e
        · have ho := (getN_some hg).1
          refine ⟨old, ho, by rw [e, retold_k], ?_⟩
          rw [e, retold_s] at a
          exact a
        · exact ⟨x, e.1, rfl, a⟩
theorem OneK.sel {L : List Ro} (h : OneK L) (k : Ky) : OneK (selR L k).2 := by
  unfold selR
  cases hg : getN L k with
  | none => exact h
  | some r =>
    have hu : OneK (unR k.p L) := h.mapR offN (selB k.p) (fun _ => rfl) (fun n a => by cases a)
    have hk := (getN_some hg).2
    have hp : (onN r).p = k.p := by rw [show (onN r).p = r.k.p from rfl, hk]
    intro m hm n hn a b c
    rcases mem_putN.1 hm with e1 | ⟨e1, _⟩
    · rcases mem_putN.1 hn with e2 | ⟨e2, _⟩
      · rw [e1, e2]
      · exfalso
        have := unR_off n e2
        rw [selB_iff.2 ⟨b, by rw [← c, e1, hp]⟩] at this
        cases this
    · rcases mem_putN.1 hn with e2 | ⟨e2, _⟩
      · exfalso
        have := unR_off m e1
        rw [selB_iff.2 ⟨a, by rw [c, e2, hp]⟩] at this
        cases this
      · exact hu m e1 n e2 a b c
theorem sel_room {L : List Ro} (k : Ky) : (selR L k).2.length = L.length := by
  unfold selR
  cases hg : getN L k with
  | none => rfl
  | some r =>
    obtain ⟨hr, hk⟩ := getN_some hg
    show (putN (unR k.p L) (onN r)).length = _
    rw [putN_len, if_pos]
    · unfold unR; rw [mapR_len]
    · rw [List.any_eq_true]
      refine ⟨_, List.mem_map.2 ⟨r, hr, rfl⟩, ?_⟩
      rw [keyB_iff]
      split <;> rfl
theorem OneK.un {L : List Ro} (h : OneK L) (ps : List Pr) : OneK (unL ps L).1 := by
  have : ∀ (ps : List Pr) (x : List Ro × Int), OneK x.1 → OneK (ps.foldl unS x).1 := by
    intro ps
    induction ps with
    | nil => intro x h; exact h
    | cons p ps ih => intro x h; exact ih _ (h.mapR offN (selB p) (fun _ => rfl) (fun n a => by cases a))
  exact this ps (L, 0) h
theorem un_room (ps : List Pr) (L : List Ro) : (unL ps L).1.length = L.length := by
  have : ∀ (ps : List Pr) (x : List Ro × Int), (ps.foldl unS x).1.length = x.1.length := by
    intro ps
    induction ps with
    | nil => intro x; rfl
    | cons p ps ih => intro x; rw [List.foldl_cons, ih]; show (unR p x.1).length = _; unfold unR; rw [mapR_len]
  exact this ps (L, 0)
theorem tickS_sub {now : Int} {L : List Ro} {n x : Ro} (hx : x ∈ tickS now L n) : x ∈ L ∨ x = expN n := by
  have h1 : ∀ x, x ∈ (if n.r = 65535 then L else putN L (expN n)) → x ∈ L ∨ x = expN n := fun x h => by
    split at h
    · exact .inl h
    · rcases mem_putN.1 h with e | e
      · exact .inr e
      · exact .inl e.1
  unfold tickS at hx
  split at hx
  · exact h1 x (List.mem_filter.1 hx).1
  · exact h1 x hx
theorem tickR_sub {now : Int} {x : Ro} : ∀ {K L : List Ro}, x ∈ tickR now L K → x ∈ L ∨ ∃ n ∈ K, x = expN n
  | [], L, hx => .inl hx
  | n :: K, L, hx => by
    rcases tickR_sub (K := K) (L := tickS now L n) hx with e | ⟨m, hm, e⟩
    · rcases tickS_sub e with e | e
      · exact .inl e
      · exact .inr ⟨n, List.mem_cons_self .., e⟩
    · exact .inr ⟨m, List.mem_cons_of_mem _ hm, e⟩
theorem expN_s (n : Ro) : (expN n).s = n.s := by
  unfold expN
  split <;> rfl
theorem OneK.tick {L K : List Ro} (h : OneK L) (hK : ∀ n ∈ K, n ∈ L) (now : Int) : OneK (tickR now L K) := by
  refine h.of fun x hx a => ?_
  rcases tickR_sub hx with e | ⟨n, hn, e⟩
  · exact ⟨x, e, rfl, a⟩
  · refine ⟨n, hK n hn, by rw [e, expN_k], ?_⟩
    rw [e, expN_s] at a
    exact a
/-- The table, some routes in it of which this is known. -/
def InvT (w : World) (t mb : Nat) (most : Int) : Prop := ∃ L, Tb w t mb most L ∧ OneK L ∧ (L.length : Int) ≤ most
theorem InvT.below {w w' : World} {t mb : Nat} {most : Int} (h : InvT w t mb most) (hb : Below w.heap.size w w') : InvT w' t mb most := by
  obtain ⟨L, h1, h2, h3⟩ := h
  exact ⟨L, h1.below hb, h2, h3⟩
theorem InvT.lt {w : World} {t mb : Nat} {most : Int} (h : InvT w t mb most) : t < w.heap.size ∧ mb < w.heap.size := by
  obtain ⟨L, h1, _⟩ := h
  exact ⟨h1.lt, h1.map.lt⟩
/-- Another block of the call's own is written. -/
theorem InvT.other {w w' : World} {t mb g : Nat} {most : Int} (h : InvT w t mb most) (hg : w.grownBy w' (some g)) (h1 : g ≠ t) (h2 : g ≠ mb) : InvT w' t mb most := by
  obtain ⟨L, k, k2, k3⟩ := h
  exact ⟨L, ⟨k.row.keep hg (Ne.symm h1), k.map.keep hg (Ne.symm h2), k.nok, k.ll⟩, k2, k3⟩
end Go.Proofs.Ythofoocknmkdjaa

namespace Go.Proofs.Ythofoocknmkdjaa
open Go.RowKit Go.Maps Go.Shelf
set_option linter.unusedSimpArgs false
set_option linter.unusedVariables false
set_option maxRecDepth 20000
/-- The document's table: without routes, without room. -/
def Em (w : World) (r : Nat) : Prop := Row w r 30 [.int .i64 0, .slice none 0 0]
theorem Em.rb {w : World} {r : Nat} (h : Em w r) : Rb w 0 r 0 [] := ⟨⟨none, 0, h, World.ownsRow_nil _ _ _ _⟩, (fun n hn => by cases hn), by simp⟩
theorem Em.below {w w' : World} {r : Nat} (h : Em w r) (hb : Below w.heap.size w w') : Em w' r := Row.below h hb (Row.lt h)
/-- What an act on it leaves. -/
def ActE (w : World) (r : Nat) (w' : World) : Prop := Em w' r ∧ w.grownBy w' (some r)
theorem ActE.of {w w' : World} {r : Nat} (h : Em w r) (hb : Below w.heap.size w w') : ActE w r w' := ⟨h.below hb, ⟨hb.os, hb.tape, hb.output, hb.size, fun i hi _ => hb.block i hi⟩⟩
theorem Em.cells {w : World} {r : Nat} (h : Em w r) : w.cell? ⟨r, 0, none⟩ = some (.int .i64 0) ∧ w.cell? ⟨r, 1, none⟩ = some (.slice none 0 0) ∧ w.frozen? ⟨r, 1, none⟩ = false := ⟨h.cell 0, h.cell 1, h.frozen 1⟩
end Go.Proofs.Ythofoocknmkdjaa

namespace Go.Proofs.Ythofoocknmkdjaa
open Go.RowKit Go.Maps Go.Shelf
set_option linter.unusedSimpArgs false
set_option linter.unusedVariables false
set_option maxRecDepth 20000
theorem infoAcs : (Try.prog.info? 43).map (·.size) = some 84 := by kernel_rfl
theorem row_ne {w : World} {g h : Nat} {T U : TypeId} {cs ds : List Value} (a : Row w g T cs) (b : Row w h U ds) (hT : T ≠ U) : g ≠ h := by
  intro e
  subst e
  unfold Row at a b
  rw [a] at b
  cases b
  exact hT rfl
/-- Two blocks may have turned; what is new is new. -/
structure Wd (w W : World) (mb r : Nat) : Prop where
  os : W.os = w.os
  tape : W.tape = w.tape
  output : W.output = w.output
  size : w.heap.size ≤ W.heap.size
  block : ∀ i, i < w.heap.size → i ≠ mb → i ≠ r → W.heap[i]? = w.heap[i]?
theorem Wd.refl (w : World) (mb r : Nat) : Wd w w mb r := ⟨rfl, rfl, rfl, Nat.le_refl _, fun _ _ _ _ => rfl⟩
theorem Wd.grow {w W W' : World} {mb r : Nat} {o : Option Nat} (h : Wd w W mb r) (g : W.grownBy W' o) (ho : ∀ b, o = some b → b < w.heap.size → b = mb ∨ b = r) : Wd w W' mb r :=
  ⟨g.os.trans h.os, g.tape.trans h.tape, g.output.trans h.output, Nat.le_trans h.size g.size, fun i hi h1 h2 => (g.block i (Nat.lt_of_lt_of_le hi h.size) (fun e => by rcases ho i e.symm hi with e | e <;> contradiction)).trans (h.block i hi h1 h2)⟩
theorem Wd.below {w W W' : World} {mb r : Nat} (h : Wd w W mb r) (b : Below W.heap.size W W') : Wd w W' mb r :=
  h.grow (o := none) ⟨b.os, b.tape, b.output, b.size, fun i hi _ => b.block i hi⟩ (fun _ e => by cases e)
/-- What holds throughout an act. -/
structure DoS (w : World) (t mb r : Nat) (most : Int) (g7 g9 : Nat) (x : Ac) (W : World) : Prop where
  act : Row W g7 43 (acs x)
  row : Row W g9 41 (ocs x.r)
  inv : InvT W t mb most
  em : Em W r
  wd : Wd w W mb r
section
variable {w W W' : World} {t mb r : Nat} {most : Int} {g7 g9 : Nat} {x : Ac}
theorem DoS.below (h : DoS w t mb r most g7 g9 x W) (b : Below W.heap.size W W') : DoS w t mb r most g7 g9 x W' :=
  ⟨h.act.below b h.act.lt, h.row.below b h.row.lt, h.inv.below b, h.em.below b, h.wd.below b⟩
theorem DoS.c34 (h : DoS w t mb r most g7 g9 x W) : W.cell? ⟨g9, 34, none⟩ = some (.int .i64 x.r.i) := (h.row.cell 34).trans (oc34 x.r)
theorem DoS.q0 (h : DoS w t mb r most g7 g9 x W) : LQ W g9 0 x.r.p := h.row.ro.q
theorem DoS.c83 (h : DoS w t mb r most g7 g9 x W) : W.cell? ⟨g7, 83, none⟩ = some (.bool x.o) := by
  have q : LC W g7 0 x := h.act.range
  simpa using q.ok
end
/-- What an act answers, and leaves. -/
def DoP (w : World) (t mb r : Nat) (most : Int) (e : Ending) (w' : World) : Prop := ∃ b, e = .returned (.bool b) ∧ InvT w' t mb most ∧ Wd w w' mb r
theorem DoS.post {w W : World} {t mb r : Nat} {most : Int} {g7 g9 : Nat} {x : Ac} (h : DoS w t mb r most g7 g9 x W) (b : Bool) : DoP w t mb r most (.returned (.bool b)) W := ⟨b, rfl, h.inv, h.wd⟩
theorem bsA1 (a : Ad) (w : World) : (Instr.buildSlice 81 1 #[(0, (Value.agg (acells a).toArray))]).run Try.prog w = .ok (.slice (some ⟨w.heap.size, 0, none⟩) 1 1) (w.alloc (.cells (acells a).toArray 32)) := by
  induction a using Ad.lits with | h b0 b1 b2 b3 b4 b5 b6 b7 b8 b9 b10 b11 b12 b13 b14 b15 h1 =>
  show _ = _
  kernel_rfl
theorem bsA2 (a : Ad) (w : World) : (Instr.buildSlice 81 2 #[(0, (Value.agg (acells a).toArray)), (1, (Value.agg (acells a).toArray))]).run Try.prog w = .ok (.slice (some ⟨w.heap.size, 0, none⟩) 2 2) (w.alloc (.cells (acells a ++ acells a).toArray 32)) := by
  induction a using Ad.lits with | h b0 b1 b2 b3 b4 b5 b6 b7 b8 b9 b10 b11 b12 b13 b14 b15 h1 =>
  show _ = _
  kernel_rfl
theorem bsP2 (p : Pr) (w : World) : (Instr.buildSlice 56 2 #[(0, (Value.agg (qcells p).toArray)), (1, (Value.agg (qcells p).toArray))]).run Try.prog w = .ok (.slice (some ⟨w.heap.size, 0, none⟩) 2 2) (w.alloc (.cells (qcells p ++ qcells p).toArray 36)) := by
  induction p using Pr.lits with | h b0 b1 b2 b3 b4 b5 b6 b7 b8 b9 b10 b11 b12 b13 b14 b15 c0 c1 c2 c3 c4 c5 c6 c7 c8 c9 c10 c11 c12 c13 c14 c15 n m h1 h2 =>
  show _ = _
  kernel_rfl
theorem PsW.two {w : World} {g : Nat} {p : Pr} (h : Row w g 36 (qcells p ++ qcells p)) : PsW w (some ⟨g, 0, none⟩) [p, p] :=
  ⟨.inr ⟨g, 0, rfl, h.lt, fun j q hq => by
    match j, hq with
    | 0, rfl => exact rangeAt_left h.range
    | 1, rfl =>
      have := rangeAt_right h.range (qcells_len p)
      simpa using this⟩⟩
theorem DsW.two {w : World} {g : Nat} {a : Ad} (h : Row w g 32 (acells a ++ acells a)) : DsW w (some ⟨g, 0, none⟩) [a, a] :=
  ⟨.inr ⟨g, 0, rfl, h.lt, fun j q hq => by
    match j, hq with
    | 0, rfl => exact rangeAt_left h.range
    | 1, rfl =>
      exact rangeAt_right h.range (acells_len a)⟩⟩
theorem DsW.nil (w : World) (ad : Option Addr) : DsW w ad [] := ⟨.inl rfl⟩
end Go.Proofs.Ythofoocknmkdjaa

namespace Go.Proofs.Ythofoocknmkdjaa
open Go.RowKit Go.Maps Go.Shelf
set_option linter.unusedSimpArgs false
set_option linter.unusedVariables false
set_option maxRecDepth 20000
theorem isB_iff {k : Ky} {n : Ro} (hp : n.p = k.p) : isB k n = true ↔ n.k = k := by
  have h := key_parts k n
  rw [hp, qB_self, Bool.true_and] at h
  have h2 : isB k n = keyB k n := h.symm
  rw [h2, keyB_iff]
theorem sS_same {n : Ro} {b : Bool} (h : n.s = b) : n.sS b = n := by subst h; rfl
theorem sel_map {L : List Ro} {k : Ky} {r : Ro} (hnd : (L.map keyN).Nodup) (hg : getN L k = some r) : putN (unR k.p L) (onN r) = L.map (seF k) := by
  obtain ⟨hr, hk⟩ := getN_some hg
  have hrp : r.p = k.p := by rw [← hk]; rfl
  have hkr : ∀ m, keyB (onN r).k m = keyB k m := fun m => by rw [show (onN r).k = r.k from rfl, hk]
  have hmem : unF k.p r ∈ unR k.p L := List.mem_map.2 ⟨r, hr, rfl⟩
  have hkk : ∀ m : Ro, (unF k.p m).k = m.k := fun m => by unfold unF; split <;> rfl
  rw [putN_rep hmem (by rw [hkr, keyB_iff, hkk, hk])]
  show (L.map (unF k.p)).map (repN (onN r)) = _
  rw [List.map_map]
  refine List.map_congr_left fun m hm => ?_
  show repN (onN r) (unF k.p m) = seF k m
  unfold repN
  rw [hkr]
  by_cases hmk : m.k = k
  · have e : m = r := nd_inj hnd hm hr (hmk.trans hk.symm)
    subst e
    rw [keyB_iff.2 ((hkk m).trans hk), if_pos rfl]
    unfold seF
    rw [if_pos (qB_iff.2 hrp), (isB_iff hrp).2 hk]
    rfl
  · have hf : keyB k (unF k.p m) = false := by
      cases hb : keyB k (unF k.p m) with
      | false => rfl
      | true => exact absurd ((hkk m).symm.trans (keyB_iff.1 hb)) hmk
    rw [hf, if_neg (by simp)]
    unfold unF seF
    cases hq : qB m.p k.p with
    | false =>
      have : selB k.p m = false := by unfold selB; rw [hq, Bool.and_false]
      rw [this, if_neg (by simp), if_neg (by simp)]
    | true =>
      have hmp := qB_iff.1 hq
      have hb : isB k m = false := by
        cases h : isB k m with
        | false => rfl
        | true => exact absurd ((isB_iff hmp).1 h) hmk
      rw [if_pos rfl, hb]
      cases hs : m.s with
      | false =>
        have : selB k.p m = false := by unfold selB; rw [hs, Bool.false_and]
        rw [this, if_neg (by simp)]
        exact (sS_same hs).symm
      | true =>
        have : selB k.p m = true := by unfold selB; rw [hs, hq]; rfl
        rw [this, if_pos rfl]
        rfl
theorem seF_k (k : Ky) (n : Ro) : (seF k n).k = n.k := by unfold seF; split <;> rfl
theorem rel_select {L K K' : List Ro} {k : Ky} {z : Int} (h : Rel L K) (hk : (getN K k = none ∧ z = 7 ∧ K' = K) ∨ ((∃ n, getN K k = some n) ∧ z = 0 ∧ K' = K.map (seF k))) : z = (selR L k).1 ∧ Rel (selR L k).2 K' := by
  have hg := getN_perm h k
  unfold selR
  rcases hk with ⟨h2, rfl, rfl⟩ | ⟨⟨n, h2⟩, rfl, rfl⟩
  · rw [hg] at h2
    rw [h2]
    exact ⟨rfl, h⟩
  · rw [hg] at h2
    rw [h2]
    dsimp only
    refine ⟨rfl, ?_⟩
    rw [sel_map h.nd h2]
    exact rel_map h (seF k) (seF_k k)
theorem cnt_one {p : Pr} : ∀ {L : List Ro}, OneS L → (L.map keyN).Nodup → (L.countP (selB p) : Int) = cntR p L
  | [], _, _ => by simp [cntR]
  | a :: L, h1, hnd => by
    have hnd2 := hnd
    rw [List.map_cons, List.nodup_cons] at hnd2
    have ih := cnt_one (p := p) (L := L) (fun m hm n hn => h1 m (List.mem_cons_of_mem _ hm) n (List.mem_cons_of_mem _ hn)) hnd2.2
    cases ha : selB p a with
    | false =>
      rw [List.countP_cons_of_neg (by rw [ha]; simp), ih]
      unfold cntR
      rw [List.any_cons, ha, Bool.false_or]
    | true =>
      have hno : ∀ n ∈ L, selB p n = false := fun n hn => by
        cases hb : selB p n with
        | false => rfl
        | true =>
          obtain ⟨a1, a2⟩ := selB_iff.1 ha
          obtain ⟨b1, b2⟩ := selB_iff.1 hb
          have e := h1 a (by simp) n (List.mem_cons_of_mem _ hn) a1 b1 (a2.trans b2.symm)
          exact absurd (by rw [e]; exact List.mem_map_of_mem hn) hnd2.1
      rw [List.countP_cons_of_pos ha, cnt_yes (List.mem_cons_self ..) ha]
      have h0 := cnt_no hno
      have h2 := ih.trans h0
      show ((L.countP (selB p) + 1 : Nat) : Int) = 1
      omega
theorem rel_unselect {L K : List Ro} {p : Pr} (h : Rel L K) (h1 : OneS L) : (K.countP (selB p) : Int) = (unL [p, p] L).2 ∧ Rel (unL [p, p] L).1 (unR p K) := by
  have hoff : ∀ n ∈ unR p L, selB p n = false := unR_off
  have e1 : unR p (unR p L) = unR p L := unR_none hoff
  have e2 : cntR p (unR p L) = 0 := cnt_no hoff
  have e3 : (unL [p, p] L).1 = unR p L := e1
  have e4 : (unL [p, p] L).2 = 0 + cntR p L + cntR p (unR p L) := rfl
  rw [e3, e4, e2, rel_count h, cnt_one h1 h.nd]
  exact ⟨by omega, rel_un h p⟩
end Go.Proofs.Ythofoocknmkdjaa
