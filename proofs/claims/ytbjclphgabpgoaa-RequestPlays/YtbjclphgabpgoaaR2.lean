/-
  The map of neighbours by interface and address.
-/
import Derived.Test.YtbjclphgabpgoaaR1
import Derived.Maps.Views
namespace Go.Proofs.Ytbjclphgabpgoaa
open Go.RowKit Go.Maps
set_option linter.unusedSimpArgs false
set_option maxRecDepth 20000
/-- Every value reads as itself. -/
def elV (v : Value) : Option (DataW Value × List MemPlace) := some (.held v, [])
theorem elV_inv {v u : Value} {ps : List MemPlace} (h : elV v = some (.held u, ps)) : v = u := by
  unfold elV at h; simp at h; exact h.1
theorem kl_of {p : Pr} (i : Id8) (h : wfQ p) : keyOf Try.prog 75 (kV p i) = some (kl p i) := key_some p i h
theorem bcells_inj {l m : List UInt8} (h : bcells l = bcells m) : l = m := by
  unfold bcells at h
  have hl : l.length = m.length := by have := congrArg List.length h; simpa using this
  apply List.ext_getElem hl
  intro j h1 h2
  have := congrArg (fun l => l[j]?) h
  simp [h1, h2] at this
  exact UInt8.toNat_inj.1 (by omega)
theorem pcells_inj {p q : Pf} (h : pcells p = pcells q) : p = q := by
  obtain ⟨a, n⟩ := p
  obtain ⟨b, m⟩ := q
  unfold pcells at h
  obtain ⟨h1, h2⟩ := List.append_inj h (by rw [acells_len, acells_len])
  have h3 : a = b := Ad.ext (bcells_inj h1)
  simp at h2
  rw [h3, h2]
theorem qcells_inj {p q : Pr} (h : qcells p = qcells q) : p = q := by
  obtain ⟨a, n⟩ := p
  obtain ⟨b, m⟩ := q
  unfold qcells at h
  obtain ⟨h1, h2⟩ := List.append_inj h (by rw [pcells_len, pcells_len])
  have h3 : a = b := pcells_inj h1
  have h4 : n = m := pcells_inj h2
  rw [h3, h4]
theorem kl_inj {p q : Pr} {i j : Id8} (hp : wfQ p) (hq : wfQ q) (h : kl p i = kl q j) : p = q ∧ i = j := by
  have e := keyLaw.inj (kl_of i hp) (h ▸ kl_of j hq)
  have e' := congrArg Array.toList (Value.agg.inj e)
  obtain ⟨h1, h2⟩ := List.append_inj e' (by rw [qcells_len, qcells_len])
  exact ⟨qcells_inj h1, Id8.ext (bcells_inj h2)⟩
theorem kl_key {p : Pr} (i : Id8) (hp : wfQ p) : WideAt.IsKeyLit (kl p i) := keyLaw.key (kl_of i hp)
/-- Of one key. -/
def qB (p q : Pr) : Bool := (decide (p.d.a.l = q.d.a.l) && decide (p.d.n = q.d.n)) && (decide (p.s.a.l = q.s.a.l) && decide (p.s.n = q.s.n))
theorem qB_iff {p q : Pr} : qB p q = true ↔ p = q := by
  obtain ⟨⟨a, n⟩, ⟨b, m⟩⟩ := p
  obtain ⟨⟨c, k⟩, ⟨d, l⟩⟩ := q
  unfold qB
  simp only [Bool.and_eq_true, decide_eq_true_eq, Pr.mk.injEq, Pf.mk.injEq]
  exact ⟨fun ⟨⟨h1, h2⟩, h3, h4⟩ => ⟨⟨Ad.ext h1, h2⟩, Ad.ext h3, h4⟩, fun ⟨⟨h1, h2⟩, h3, h4⟩ => ⟨⟨by rw [h1], h2⟩, by rw [h3], h4⟩⟩
def keyB (p : Pr) (i : Id8) (m : Sr) : Bool := qB m.p p && decide (m.id.l = i.l)
theorem keyB_iff {p : Pr} {i : Id8} {m : Sr} : keyB p i m = true ↔ m.p = p ∧ m.id = i := by
  unfold keyB
  simp only [Bool.and_eq_true, decide_eq_true_eq, qB_iff]
  exact ⟨fun ⟨h1, h2⟩ => ⟨h1, Id8.ext h2⟩, fun ⟨h1, h2⟩ => ⟨h1, by rw [h2]⟩⟩
def keyN (n : Sr) : Pr × Id8 := (n.p, n.id)
theorem keyN_iff {n m : Sr} : keyN m = keyN n ↔ keyB n.p n.id m = true := by
  rw [keyB_iff]
  unfold keyN
  simp only [Prod.mk.injEq]
/-- One is kept in place of what was kept of it. -/
def putN (L : List Sr) (n : Sr) : List Sr := if L.any (keyB n.p n.id) then L.map (fun m => if keyB n.p n.id m then n else m) else L ++ [n]
def delN (L : List Sr) (p : Pr) (i : Id8) : List Sr := L.filter fun m => !keyB p i m
theorem mem_putN {L : List Sr} {n x : Sr} : x ∈ putN L n ↔ x = n ∨ (x ∈ L ∧ keyB n.p n.id x = false) := by
  unfold putN
  split
  · rename_i h
    obtain ⟨y, hy, hk⟩ := List.any_eq_true.1 h
    rw [List.mem_map]
    constructor
    · rintro ⟨m, hm, rfl⟩
      cases hb : keyB n.p n.id m
      · exact .inr (by simp [hb, hm])
      · simp [hb]
    · rintro (rfl | ⟨h1, h2⟩)
      · exact ⟨y, hy, by simp [hk]⟩
      · exact ⟨x, h1, by simp [h2]⟩
  · rename_i h
    rw [List.mem_append]
    constructor
    · rintro (h1 | h1)
      · refine .inr ⟨h1, ?_⟩
        cases hb : keyB n.p n.id x
        · rfl
        · exact absurd (List.any_eq_true.2 ⟨x, h1, hb⟩) h
      · simp at h1; exact .inl h1
    · rintro (rfl | ⟨h1, h2⟩)
      · exact .inr (by simp)
      · exact .inl h1
theorem putN_len {L : List Sr} {n : Sr} : (putN L n).length = if L.any (keyB n.p n.id) then L.length else L.length + 1 := by
  unfold putN
  split <;> simp
theorem putN_nd {L : List Sr} {n : Sr} (h : (L.map keyN).Nodup) : ((putN L n).map keyN).Nodup := by
  unfold putN
  split
  · have e : (L.map (fun m => if keyB n.p n.id m then n else m)).map keyN = L.map keyN := by
      rw [List.map_map]
      apply List.map_congr_left
      intro m _
      simp only [Function.comp_def]
      split
      · rename_i hb; exact (keyN_iff.2 hb).symm
      · rfl
    rw [e]; exact h
  · rename_i hn
    rw [List.map_append, List.nodup_append]
    refine ⟨h, by simp, ?_⟩
    intro a ha b hb
    obtain ⟨m, hm, rfl⟩ := List.mem_map.1 ha
    simp at hb
    subst hb
    intro e
    exact hn (List.any_eq_true.2 ⟨m, hm, keyN_iff.1 e⟩)
theorem delN_len (p : Pr) (i : Id8) : ∀ {L : List Sr}, (L.map keyN).Nodup → (delN L p i).length + (if L.any (keyB p i) then 1 else 0) = L.length
  | [], _ => rfl
  | m :: L, h => by
    rw [List.map_cons, List.nodup_cons] at h
    have ih := delN_len p i h.2
    unfold delN at *
    cases hb : keyB p i m
    · simp only [List.filter_cons, hb, List.any_cons, Bool.not_false, if_true, List.length_cons, Bool.false_or]
      omega
    · have hno : L.any (keyB p i) = false := by
        rw [Bool.eq_false_iff]
        intro hc
        obtain ⟨y, hy, hk⟩ := List.any_eq_true.1 hc
        apply h.1
        rw [List.mem_map]
        refine ⟨y, hy, ?_⟩
        rw [keyB_iff] at hb hk
        unfold keyN
        rw [hb.1, hb.2, hk.1, hk.2]
      rw [hno] at ih
      simp only [List.filter_cons, hb, List.any_cons, Bool.not_true, List.length_cons, Bool.true_or, if_true]
      simp at ih
      simp
      omega
/-- The map leads from just these keys to these neighbours. -/
structure Mp (w : World) (mb : Nat) (L : List Sr) : Prop where
  nd : (L.map keyN).Nodup
  wf : ∀ n ∈ L, wfQ n.p
  ex : ∃ D : DataW Value, w.ownsMap Try.prog 75 elV mb L.length D ∧ size D = L.length ∧ (∀ l : Lit, has D l = true ↔ ∃ n ∈ L, kl n.p n.id = l) ∧ ∀ n ∈ L, ∀ z, D.atKey (kl n.p n.id) z = .held (.agg (scs n).toArray)
theorem tight {w : World} {b n : Nat} {D : DataW Value} (h : w.ownsMap Try.prog 75 elV b n D) : w.ownsMap Try.prog 75 elV b (size D) D := by
  obtain ⟨es, clock, hb, F, hs, rfl⟩ := h
  exact ⟨es, clock, hb, F, by simp [size, length_sorted], rfl⟩
theorem Mp.obj {w : World} {mb : Nat} {L : List Sr} (h : Mp w mb L) : ∃ es cl, w.heap[mb]? = some (.map es cl) := by
  obtain ⟨D, ⟨es, clock, hb, _⟩, _⟩ := h.ex
  exact ⟨es, clock, hb⟩
theorem Mp.lt {w : World} {mb : Nat} {L : List Sr} (h : Mp w mb L) : mb < w.heap.size := by
  obtain ⟨es, cl, h⟩ := h.obj
  exact (Array.getElem?_eq_some_iff.1 h).1
theorem Mp.same {w w' : World} {mb : Nat} {L : List Sr} (h : Mp w mb L) (hb : w'.heap[mb]? = w.heap[mb]?) : Mp w' mb L := by
  obtain ⟨D, ⟨es, clock, h1, h5⟩, h2, h3, h4⟩ := h.ex
  exact ⟨h.nd, h.wf, D, ⟨es, clock, hb.trans h1, h5⟩, h2, h3, h4⟩
theorem Mp.below {w w' : World} {mb B : Nat} {L : List Sr} (h : Mp w mb L) (hb : Below B w w') (hlt : mb < B) : Mp w' mb L := h.same (hb.block mb hlt)
theorem Mp.keep {w w' : World} {mb b : Nat} {L : List Sr} (h : Mp w mb L) (hg : w.grownBy w' (some b)) (hne : mb ≠ b) : Mp w' mb L := h.same (hg.block mb h.lt (fun e => hne (by cases e; rfl)))
theorem Mp.ne_row {w : World} {mb g : Nat} {L : List Sr} {t : TypeId} {cs : List Value} (h : Mp w mb L) (hr : Row w g t cs) : g ≠ mb := by
  obtain ⟨es, cl, h⟩ := h.obj
  intro e
  unfold Row at hr
  rw [e, h] at hr
  cases hr
theorem Mp.perm {w : World} {mb : Nat} {L L' : List Sr} (h : Mp w mb L) (hp : L'.Perm L) : Mp w mb L' := by
  obtain ⟨D, h1, h2, h3, h4⟩ := h.ex
  refine ⟨(hp.map _).nodup_iff.2 h.nd, fun t ht => h.wf t (hp.mem_iff.1 ht), D, by rw [hp.length_eq]; exact h1, by rw [hp.length_eq]; exact h2, fun l => ?_, fun t ht => h4 t (hp.mem_iff.1 ht)⟩
  rw [h3]
  exact ⟨fun ⟨t, ht, e⟩ => ⟨t, hp.mem_iff.2 ht, e⟩, fun ⟨t, ht, e⟩ => ⟨t, hp.mem_iff.1 ht, e⟩⟩
theorem Mp.new (w : World) : Mp (w.alloc (.map #[] 0)) w.heap.size [] :=
  ⟨by simp, by simp, .map [], World.ownsMap_made w _ _ _, rfl, fun l => by simp [has_eq], by simp⟩
/-- What is found at a key. -/
def getN (L : List Sr) (p : Pr) (i : Id8) : Option Sr := L.find? (keyB p i)
theorem getN_some {L : List Sr} {p : Pr} {i : Id8} {n : Sr} (h : getN L p i = some n) : n ∈ L ∧ n.p = p ∧ n.id = i := by
  have h1 := List.find?_some h
  exact ⟨List.mem_of_find?_eq_some h, (keyB_iff.1 h1).1, (keyB_iff.1 h1).2⟩
theorem getN_none {L : List Sr} {p : Pr} {i : Id8} (h : getN L p i = none) : ∀ n ∈ L, keyB p i n = false := by
  intro n hn
  have := List.find?_eq_none.1 h n hn
  simpa using this
def getV (o : Option Sr) : Value := .tuple #[.agg (scs (o.getD zeroS)).toArray, .bool o.isSome]
theorem Mp.look {w : World} {mb : Nat} {L : List Sr} (h : Mp w mb L) {p : Pr} (hi : wfQ p) (i : Id8) : (Instr.lookup 68 (.map (some mb)) (.agg (kcs p i).toArray) true).run Try.prog w = .ok (getV (getN L p i)) w := by
  obtain ⟨D, h1, _, h3, h4⟩ := h.ex
  obtain ⟨v, ps, hr, hv⟩ := h1.look_ok keyLaw Try.underlying68 (zeroSv w) rfl (kl_of i hi)
  cases hg : getN L p i with
  | some n =>
    obtain ⟨hn, e1, e2⟩ := getN_some hg
    have hh := (h3 (kl p i)).2 ⟨n, hn, by rw [e1, e2]⟩
    have ha := h4 n hn
    rw [e1, e2] at ha
    rw [ha] at hv
    rw [hh, elV_inv hv] at hr
    exact hr
  | none =>
    have hf : has D (kl p i) = false := by
      cases hc : has D (kl p i) with
      | false => rfl
      | true =>
        obtain ⟨n, hn, e⟩ := (h3 _).1 hc
        obtain ⟨e1, e2⟩ := kl_inj (h.wf n hn) hi e
        have := getN_none hg n hn
        rw [keyB_iff.2 ⟨e1, e2⟩] at this
        cases this
    rw [atKey_of_not_has hf] at hv
    rw [hf, elV_inv hv] at hr
    exact hr
theorem Mp.len {w : World} {mb : Nat} {L : List Sr} (h : Mp w mb L) (ty : TypeId) : (Builtin.len_ #[68] ty #[.map (some mb)]).run Try.prog w = .ok (.int .i64 (L.length : Nat)) w := by
  obtain ⟨D, h1, h2, _⟩ := h.ex
  rw [← h2]
  exact h1.len Try.underlying68 ty
theorem Mp.put {w : World} {mb : Nat} {L : List Sr} (h : Mp w mb L) (n : Sr) (hi : wfQ n.p) (hl : L.length < maxLen) : ∃ w', (Instr.mapUpdate 68 (.map (some mb)) (.agg (kcs n.p n.id).toArray) (.agg (scs n).toArray)).run Try.prog w = .ok () w' ∧ Mp w' mb (putN L n) ∧ w.grownBy w' (some mb) := by
  obtain ⟨D, h1, h2, h3, h4⟩ := h.ex
  obtain ⟨w', hr, hw, ht⟩ := h1.store keyLaw Try.underlying68 hl (val := .agg (scs n).toArray) (kl_of n.id hi) rfl
  refine ⟨w', hr, ?_, ht.grown⟩
  have ti := h1.tidy keyLaw
  have hh : has D (kl n.p n.id) = L.any (keyB n.p n.id) := by
    rw [Bool.eq_iff_iff, h3, List.any_eq_true]
    constructor
    · rintro ⟨m, hm, e⟩
      exact ⟨m, hm, keyB_iff.2 (kl_inj (h.wf m hm) hi e)⟩
    · rintro ⟨m, hm, e⟩
      obtain ⟨e1, e2⟩ := keyB_iff.1 e
      exact ⟨m, hm, by rw [e1, e2]⟩
  have hsz : size (D.put (kl n.p n.id) (.held (.agg (scs n).toArray))) = (putN L n).length := by
    rw [size_put ti, hh, putN_len, h2]
  refine ⟨putN_nd h.nd, ?_, _, (by rw [← hsz]; exact tight hw), hsz, ?_, ?_⟩
  · intro x hx
    rcases mem_putN.1 hx with rfl | ⟨hx, _⟩
    · exact hi
    · exact h.wf x hx
  · intro l
    by_cases e : l = kl n.p n.id
    · subst e
      rw [has_put_same ti.isMap (kl_key _ hi)]
      exact ⟨fun _ => ⟨n, mem_putN.2 (.inl rfl), rfl⟩, fun _ => rfl⟩
    · rw [has_put_other e, h3]
      constructor
      · rintro ⟨m, hm, rfl⟩
        refine ⟨m, mem_putN.2 (.inr ⟨hm, ?_⟩), rfl⟩
        cases hb : keyB n.p n.id m
        · rfl
        · obtain ⟨e1, e2⟩ := keyB_iff.1 hb
          exact absurd (by rw [e1, e2]) e
      · rintro ⟨m, hm, rfl⟩
        rcases mem_putN.1 hm with rfl | ⟨hm, _⟩
        · exact absurd rfl e
        · exact ⟨m, hm, rfl⟩
  · intro m hm z
    rcases mem_putN.1 hm with rfl | ⟨hm, hb⟩
    · exact atKey_put_same ti.isMap (kl_key _ hi) _ _
    · rw [atKey_put_other]
      · exact h4 m hm z
      · intro e
        rw [keyB_iff.2 (kl_inj (h.wf m hm) hi e)] at hb
        cases hb
theorem Mp.del {w : World} {mb : Nat} {L : List Sr} (h : Mp w mb L) {p : Pr} (i : Id8) (hi : wfQ p) (ty : TypeId) : ∃ w', (Builtin.delete_ #[68, 75] ty #[.map (some mb), .agg (kcs p i).toArray]).run Try.prog w = .ok (.tuple #[]) w' ∧ Mp w' mb (delN L p i) ∧ w.grownBy w' (some mb) := by
  obtain ⟨D, h1, h2, h3, h4⟩ := h.ex
  obtain ⟨w', hr, hw, ht⟩ := h1.drop keyLaw Try.underlying68 (kl_of i hi) ty
  refine ⟨w', hr, ?_, ht.grown⟩
  have ti := h1.tidy keyLaw
  have hh : has D (kl p i) = L.any (keyB p i) := by
    rw [Bool.eq_iff_iff, h3, List.any_eq_true]
    constructor
    · rintro ⟨m, hm, e⟩
      exact ⟨m, hm, keyB_iff.2 (kl_inj (h.wf m hm) hi e)⟩
    · rintro ⟨m, hm, e⟩
      obtain ⟨e1, e2⟩ := keyB_iff.1 e
      exact ⟨m, hm, by rw [e1, e2]⟩
  have hsz : size (D.del (kl p i)) = (delN L p i).length := by
    have a1 := size_del (k := kl p i) ti
    have a2 := delN_len p i h.nd
    rw [hh, h2] at a1
    omega
  have hm' : ∀ {x : Sr}, x ∈ delN L p i ↔ x ∈ L ∧ keyB p i x = false := by
    intro x
    unfold delN
    rw [List.mem_filter]
    simp
  refine ⟨?_, fun x hx => h.wf x (hm'.1 hx).1, _, (by rw [← hsz]; exact tight hw), hsz, ?_, ?_⟩
  · exact List.Sublist.nodup (List.Sublist.map _ List.filter_sublist) h.nd
  · intro l
    by_cases e : l = kl p i
    · subst e
      rw [has_del_same]
      refine ⟨fun h => (by cases h), ?_⟩
      rintro ⟨m, hm, e⟩
      have := (hm'.1 hm).2
      rw [keyB_iff.2 (kl_inj (h.wf m (hm'.1 hm).1) hi e)] at this
      cases this
    · rw [has_del_other e, h3]
      constructor
      · rintro ⟨m, hm, rfl⟩
        refine ⟨m, hm'.2 ⟨hm, ?_⟩, rfl⟩
        cases hb : keyB p i m
        · rfl
        · obtain ⟨e1, e2⟩ := keyB_iff.1 hb
          exact absurd (by rw [e1, e2]) e
      · rintro ⟨m, hm, rfl⟩
        exact ⟨m, (hm'.1 hm).1, rfl⟩
  · intro m hm z
    obtain ⟨hm1, hb⟩ := hm'.1 hm
    rw [atKey_del_other]
    · exact h4 m hm1 z
    · intro e
      rw [keyB_iff.2 (kl_inj (h.wf m hm1) hi e)] at hb
      cases hb
end Go.Proofs.Ytbjclphgabpgoaa
