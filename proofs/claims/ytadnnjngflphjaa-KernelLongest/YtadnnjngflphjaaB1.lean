/-
  Maps by prefixes, whatever they lead to; what is held of a pair.
-/
import Derived.Test.YtadnnjngflphjaaF1
import Derived.Maps.Views
namespace Go.Proofs.Ytadnnjngflphjaa
open Go.RowKit Go.Maps
set_option linter.unusedSimpArgs false
set_option linter.unusedVariables false
set_option maxRecDepth 20000
/-- Every value reads as itself. -/
def elV (v : Value) : Option (DataW Value × List MemPlace) := some (.held v, [])
theorem elV_inv {v u : Value} {ps : List MemPlace} (h : elV v = some (.held u, ps)) : v = u := by
  unfold elV at h; simp at h; exact h.1
def wfP (p : Pf) : Prop := wfI p.n
theorem keyLawP : Keyed Try.prog 33 := Keyed.of_law (deep_law_laid (m := 3) (by kernel_rfl) (by omega) (of_decide_eq_true (by kernel_rfl)) (by kernel_rfl) (by kernel_rfl))
def kp (p : Pf) : Lit := .string (keyBytes (pls p))
theorem keyP_some (p : Pf) (hp : wfP p) : keyOf Try.prog 33 (Value.agg (pcells p).toArray) = some (kp p) := by
  have kI : ∀ (d : Nat) (n : Int), wfI n → Try.prog.keyLits (d + 1) 3 [.int .i64 n] = some [.int .i64 n] := fun d n hn => by simp [Program.keyLits, Try.underlying3, show (Lit.int .i64 n).wf = true from hn]
  have k8 : ∀ d (b : UInt8), Try.prog.keyLits (d + 1) 5 [.int .u8 (b.toNat : Int)] = some [.int .u8 b.toNat] := fun d b => by simp [Program.keyLits, Try.underlying5, wf_u8]
  have c8 : Try.prog.cellsOf 5 = 1 := by kernel_rfl
  have cA : Try.prog.cellsOf 31 = 16 := by kernel_rfl
  have cP : Try.prog.cellsOf 33 = 17 := by kernel_rfl
  have cI : Try.prog.cellsOf 3 = 1 := by kernel_rfl
  have kt : Try.prog.keyType 33 = true := by kernel_rfl
  have sz : 5 ≤ Try.prog.types.size := of_decide_eq_true (by kernel_rfl)
  obtain ⟨d, hd⟩ : ∃ d, Try.prog.types.size + 1 = d + 3 := ⟨Try.prog.types.size - 2, by omega⟩
  have hA : ∀ (d : Nat) (c : Ad), Try.prog.keyLits (d + 2) 31 (acells c) = some (bls c.l) := fun d c => by
    obtain ⟨l, hl⟩ := c
    match l, hl with
    | [b0, b1, b2, b3, b4, b5, b6, b7, b8, b9, b10, b11, b12, b13, b14, b15], _ =>
      unfold Program.keyLits
      simp [Try.underlying31, acells, bcells, cA, c8, k8, List.range, List.range.loop, bls]
  unfold keyOf kp
  rw [Try.underlying33, hd]
  simp only [kt, Value.formed, Try.underlying33, cP, Bool.true_and, Value.cells]
  unfold Program.keyLits
  simp [Try.underlying33, cP, cA, cI, pcells_len, pcells, acells_len, hA, kI _ _ hp, List.take_of_length_le, pls]
theorem kp_of {p : Pf} (h : wfP p) : keyOf Try.prog 33 (Value.agg (pcells p).toArray) = some (kp p) := keyP_some p h
theorem bcells_inj {l m : List UInt8} (h : bcells l = bcells m) : l = m := by
  unfold bcells at h
  have hl : l.length = m.length := by have := congrArg List.length h; simpa using this
  apply List.ext_getElem hl
  intro j h1 h2
  have := congrArg (fun l => l[j]?) h
  simp [h1, h2] at this
  exact UInt8.toNat_inj.1 (by omega)
theorem pcells_inj {p q : Pf} (h : pcells p = pcells q) : p = q := by
  obtain ⟨a, n⟩ := p
  obtain ⟨b, m⟩ := q
  unfold pcells at h
  obtain ⟨h1, h2⟩ := List.append_inj h (by rw [acells_len, acells_len])
  have h3 : a = b := Ad.ext (bcells_inj h1)
  simp at h2
  rw [h3, h2]
theorem qcells_inj {p q : Pr} (h : qcells p = qcells q) : p = q := by
  obtain ⟨a, n⟩ := p
  obtain ⟨b, m⟩ := q
  unfold qcells at h
  obtain ⟨h1, h2⟩ := List.append_inj h (by rw [pcells_len, pcells_len])
  have h3 : a = b := pcells_inj h1
  have h4 : n = m := pcells_inj h2
  rw [h3, h4]
theorem kp_inj {p q : Pf} (hp : wfP p) (hq : wfP q) (h : kp p = kp q) : p = q := by
  have e := keyLawP.inj (kp_of hp) (h ▸ kp_of hq)
  exact pcells_inj (congrArg Array.toList (Value.agg.inj e))
theorem kp_key {p : Pf} (hp : wfP p) : WideAt.IsKeyLit (kp p) := keyLawP.key (kp_of hp)
/-- Are two prefixes one? -/
def pB (p q : Pf) : Bool := decide (p.a.l = q.a.l) && decide (p.n = q.n)
theorem pB_iff {p q : Pf} : pB p q = true ↔ p = q := by
  obtain ⟨a, n⟩ := p
  obtain ⟨b, m⟩ := q
  unfold pB
  simp only [Bool.and_eq_true, decide_eq_true_eq, Pf.mk.injEq]
  exact ⟨fun ⟨h1, h2⟩ => ⟨Ad.ext h1, h2⟩, fun ⟨h1, h2⟩ => ⟨by rw [h1], h2⟩⟩
theorem pB_self (p : Pf) : pB p p = true := pB_iff.2 rfl
theorem pB_no {p q : Pf} : pB p q = false ↔ p ≠ q := by rw [Bool.eq_false_iff, ne_eq, pB_iff]
/-- Are two pairs one? -/
def qB (p q : Pr) : Bool := pB p.d q.d && pB p.s q.s
theorem qB_iff {p q : Pr} : qB p q = true ↔ p = q := by
  obtain ⟨a, b⟩ := p
  obtain ⟨c, d⟩ := q
  unfold qB
  simp only [Bool.and_eq_true, pB_iff, Pr.mk.injEq]
theorem qB_self (p : Pr) : qB p p = true := qB_iff.2 rfl
theorem qB_no {p q : Pr} : qB p q = false ↔ p ≠ q := by rw [Bool.eq_false_iff, ne_eq, qB_iff]
/-- A kind of maps by prefixes: what an element's prefix is, what the map holds of it, the type of the map and of what it holds. -/
structure Mk (α : Type) where
  key : α → Pf
  val : α → Value
  z : α
  M : TypeId
  T : TypeId
  und : Try.prog.underlying M = some (.map 33 T)
  zv : ∀ w, (zeroValue T).run Try.prog w = .ok (val z) w
variable {α : Type}
def keyB (k : Mk α) (p : Pf) (m : α) : Bool := pB (k.key m) p
theorem keyB_iff {k : Mk α} {p : Pf} {m : α} : keyB k p m = true ↔ k.key m = p := pB_iff
/-- One is kept in place of what was kept of it. -/
def putN (k : Mk α) (L : List α) (n : α) : List α := if L.any (keyB k (k.key n)) then L.map (fun m => if keyB k (k.key n) m then n else m) else L ++ [n]
def delN (k : Mk α) (L : List α) (p : Pf) : List α := L.filter fun m => !keyB k p m
theorem mem_putN {k : Mk α} {L : List α} {n x : α} : x ∈ putN k L n ↔ x = n ∨ (x ∈ L ∧ keyB k (k.key n) x = false) := by
  unfold putN
  split
  · rename_i h
    obtain ⟨y, hy, hk⟩ := List.any_eq_true.1 h
    rw [List.mem_map]
    constructor
    · rintro ⟨m, hm, rfl⟩
      cases hb : keyB k (k.key n) m
      · exact .inr (by simp [hb, hm])
      · simp
    · rintro (rfl | ⟨h1, h2⟩)
      · exact ⟨y, hy, by simp [hk]⟩
      · exact ⟨x, h1, by simp [h2]⟩
  · rename_i h
    rw [List.mem_append]
    constructor
    · rintro (h1 | h1)
      · refine .inr ⟨h1, ?_⟩
        cases hb : keyB k (k.key n) x
        · rfl
        · exact absurd (List.any_eq_true.2 ⟨x, h1, hb⟩) h
      · simp at h1; exact .inl h1
    · rintro (rfl | ⟨h1, h2⟩)
      · exact .inr (by simp)
      · exact .inl h1
theorem mem_delN {k : Mk α} {L : List α} {p : Pf} {x : α} : x ∈ delN k L p ↔ x ∈ L ∧ keyB k p x = false := by
  unfold delN
  rw [List.mem_filter]
  simp
theorem putN_len {k : Mk α} {L : List α} {n : α} : (putN k L n).length = if L.any (keyB k (k.key n)) then L.length else L.length + 1 := by
  unfold putN
  split <;> simp
theorem putN_le {k : Mk α} {L : List α} {n : α} : (putN k L n).length ≤ L.length + 1 := by
  rw [putN_len]; split <;> omega
theorem delN_le {k : Mk α} {L : List α} {p : Pf} : (delN k L p).length ≤ L.length := List.length_filter_le _ _
theorem putN_nd {k : Mk α} {L : List α} {n : α} (h : (L.map k.key).Nodup) : ((putN k L n).map k.key).Nodup := by
  unfold putN
  split
  · have e : (L.map (fun m => if keyB k (k.key n) m then n else m)).map k.key = L.map k.key := by
      rw [List.map_map]
      apply List.map_congr_left
      intro m _
      simp only [Function.comp_def]
      split
      · rename_i hb; exact (keyB_iff.1 hb).symm
      · rfl
    rw [e]; exact h
  · rename_i hn
    rw [List.map_append, List.nodup_append]
    refine ⟨h, by simp, ?_⟩
    intro a ha b hb
    obtain ⟨m, hm, rfl⟩ := List.mem_map.1 ha
    simp at hb
    subst hb
    intro e
    exact hn (List.any_eq_true.2 ⟨m, hm, keyB_iff.2 e⟩)
theorem delN_len {k : Mk α} (p : Pf) : ∀ {L : List α}, (L.map k.key).Nodup → (delN k L p).length + (if L.any (keyB k p) then 1 else 0) = L.length
  | [], _ => rfl
  | m :: L, h => by
    rw [List.map_cons, List.nodup_cons] at h
    have ih := delN_len p h.2
    unfold delN at *
    cases hb : keyB k p m
    · simp only [List.filter_cons, hb, List.any_cons, Bool.not_false, if_true, List.length_cons, Bool.false_or]
      omega
    · have hno : L.any (keyB k p) = false := by
        rw [Bool.eq_false_iff]
        intro hc
        obtain ⟨y, hy, hk⟩ := List.any_eq_true.1 hc
        apply h.1
        rw [List.mem_map]
        exact ⟨y, hy, by rw [keyB_iff.1 hb, keyB_iff.1 hk]⟩
      rw [hno] at ih
      simp only [List.filter_cons, hb, List.any_cons, Bool.not_true, List.length_cons, Bool.true_or, if_true]
      simp at ih
      simp
      omega
/-- The map leads from just these prefixes to these. -/
structure Mp (k : Mk α) (w : World) (mb : Nat) (L : List α) : Prop where
  nd : (L.map k.key).Nodup
  wf : ∀ n ∈ L, wfP (k.key n)
  ex : ∃ D : DataW Value, w.ownsMap Try.prog 33 elV mb L.length D ∧ size D = L.length ∧ (∀ l : Lit, has D l = true ↔ ∃ n ∈ L, kp (k.key n) = l) ∧ ∀ n ∈ L, ∀ z, D.atKey (kp (k.key n)) z = .held (k.val n)
theorem tight {w : World} {b n : Nat} {D : DataW Value} (h : w.ownsMap Try.prog 33 elV b n D) : w.ownsMap Try.prog 33 elV b (size D) D := by
  obtain ⟨es, clock, hb, F, hs, rfl⟩ := h
  exact ⟨es, clock, hb, F, by simp [size, length_sorted], rfl⟩
variable {k : Mk α}
theorem Mp.obj {w : World} {mb : Nat} {L : List α} (h : Mp k w mb L) : ∃ es cl, w.heap[mb]? = some (.map es cl) := by
  obtain ⟨D, ⟨es, clock, hb, _⟩, _⟩ := h.ex
  exact ⟨es, clock, hb⟩
theorem Mp.lt {w : World} {mb : Nat} {L : List α} (h : Mp k w mb L) : mb < w.heap.size := by
  obtain ⟨es, cl, h⟩ := h.obj
  exact (Array.getElem?_eq_some_iff.1 h).1
theorem Mp.same {w w' : World} {mb : Nat} {L : List α} (h : Mp k w mb L) (hb : w'.heap[mb]? = w.heap[mb]?) : Mp k w' mb L := by
  obtain ⟨D, ⟨es, clock, h1, h5⟩, h2, h3, h4⟩ := h.ex
  exact ⟨h.nd, h.wf, D, ⟨es, clock, hb.trans h1, h5⟩, h2, h3, h4⟩
theorem Mp.below {w w' : World} {mb B : Nat} {L : List α} (h : Mp k w mb L) (hb : Below B w w') (hlt : mb < B) : Mp k w' mb L := h.same (hb.block mb hlt)
theorem Mp.keep {w w' : World} {mb b : Nat} {L : List α} (h : Mp k w mb L) (hg : w.grownBy w' (some b)) (hne : mb ≠ b) : Mp k w' mb L := h.same (hg.block mb h.lt (fun e => hne (by cases e; rfl)))
theorem Mp.ne_row {w : World} {mb g : Nat} {L : List α} {t : TypeId} {cs : List Value} (h : Mp k w mb L) (hr : Row w g t cs) : g ≠ mb := by
  obtain ⟨es, cl, h⟩ := h.obj
  intro e
  unfold Row at hr
  rw [e, h] at hr
  cases hr
theorem Mp.perm {w : World} {mb : Nat} {L L' : List α} (h : Mp k w mb L) (hp : L'.Perm L) : Mp k w mb L' := by
  obtain ⟨D, h1, h2, h3, h4⟩ := h.ex
  refine ⟨(hp.map _).nodup_iff.2 h.nd, fun t ht => h.wf t (hp.mem_iff.1 ht), D, by rw [hp.length_eq]; exact h1, by rw [hp.length_eq]; exact h2, fun l => ?_, fun t ht => h4 t (hp.mem_iff.1 ht)⟩
  rw [h3]
  exact ⟨fun ⟨t, ht, e⟩ => ⟨t, hp.mem_iff.2 ht, e⟩, fun ⟨t, ht, e⟩ => ⟨t, hp.mem_iff.1 ht, e⟩⟩
theorem Mp.new (k : Mk α) (w : World) : Mp k (w.alloc (.map #[] 0)) w.heap.size [] :=
  ⟨by simp, by simp, .map [], World.ownsMap_made w _ _ _, rfl, fun l => by simp [has_eq], by simp⟩
/-- What is found of a prefix. -/
def getN (k : Mk α) (L : List α) (p : Pf) : Option α := L.find? (keyB k p)
theorem getN_some {L : List α} {p : Pf} {n : α} (h : getN k L p = some n) : n ∈ L ∧ k.key n = p :=
  ⟨List.mem_of_find?_eq_some h, keyB_iff.1 (List.find?_some h)⟩
theorem getN_none {L : List α} {p : Pf} (h : getN k L p = none) : ∀ n ∈ L, keyB k p n = false := by
  intro n hn
  have := List.find?_eq_none.1 h n hn
  simpa using this
def getV (k : Mk α) (o : Option α) : Value := .tuple #[k.val (o.getD k.z), .bool o.isSome]
theorem Mp.has_ {w : World} {mb : Nat} {L : List α} (h : Mp k w mb L) {D : DataW Value} (h3 : ∀ l : Lit, has D l = true ↔ ∃ n ∈ L, kp (k.key n) = l) {p : Pf} (hi : wfP p) : has D (kp p) = L.any (keyB k p) := by
  rw [Bool.eq_iff_iff, h3, List.any_eq_true]
  constructor
  · rintro ⟨m, hm, e⟩
    exact ⟨m, hm, keyB_iff.2 (kp_inj (h.wf m hm) hi e)⟩
  · rintro ⟨m, hm, e⟩
    exact ⟨m, hm, by rw [keyB_iff.1 e]⟩
theorem Mp.look {w : World} {mb : Nat} {L : List α} (h : Mp k w mb L) {p : Pf} (hi : wfP p) : (Instr.lookup k.M (.map (some mb)) (Value.agg (pcells p).toArray) true).run Try.prog w = .ok (getV k (getN k L p)) w := by
  obtain ⟨D, h1, _, h3, h4⟩ := h.ex
  obtain ⟨v, ps, hr, hv⟩ := h1.look_ok keyLawP k.und (k.zv w) rfl (kp_of hi)
  cases hg : getN k L p with
  | some n =>
    obtain ⟨hn, e1⟩ := getN_some hg
    have hh := (h3 (kp p)).2 ⟨n, hn, by rw [e1]⟩
    have ha := h4 n hn
    rw [e1] at ha
    rw [ha] at hv
    rw [hh, elV_inv hv] at hr
    exact hr
  | none =>
    have hf : has D (kp p) = false := by
      cases hc : has D (kp p) with
      | false => rfl
      | true =>
        obtain ⟨n, hn, e⟩ := (h3 _).1 hc
        have := getN_none hg n hn
        rw [keyB_iff.2 (kp_inj (h.wf n hn) hi e)] at this
        cases this
    rw [atKey_of_not_has hf] at hv
    rw [hf, elV_inv hv] at hr
    exact hr
theorem Mp.len {w : World} {mb : Nat} {L : List α} (h : Mp k w mb L) (ty : TypeId) : (Builtin.len_ #[k.M] ty #[.map (some mb)]).run Try.prog w = .ok (.int .i64 (L.length : Nat)) w := by
  obtain ⟨D, h1, h2, _⟩ := h.ex
  rw [← h2]
  exact h1.len k.und ty
theorem Mp.put {w : World} {mb : Nat} {L : List α} (h : Mp k w mb L) (n : α) (hi : wfP (k.key n)) (hl : L.length < maxLen) : ∃ w', (Instr.mapUpdate k.M (.map (some mb)) (Value.agg (pcells (k.key n)).toArray) (k.val n)).run Try.prog w = .ok () w' ∧ Mp k w' mb (putN k L n) ∧ w.grownBy w' (some mb) := by
  obtain ⟨D, h1, h2, h3, h4⟩ := h.ex
  obtain ⟨w', hr, hw, ht⟩ := h1.store keyLawP k.und hl (val := k.val n) (kp_of hi) rfl
  refine ⟨w', hr, ?_, ht.grown⟩
  have ti := h1.tidy keyLawP
  have hh := h.has_ h3 hi
  have hsz : size (D.put (kp (k.key n)) (.held (k.val n))) = (putN k L n).length := by
    rw [size_put ti, hh, putN_len, h2]
  refine ⟨putN_nd h.nd, ?_, _, (by rw [← hsz]; exact tight hw), hsz, ?_, ?_⟩
  · intro x hx
    rcases mem_putN.1 hx with rfl | ⟨hx, _⟩
    · exact hi
    · exact h.wf x hx
  · intro l
    by_cases e : l = kp (k.key n)
    · subst e
      rw [has_put_same ti.isMap (kp_key hi)]
      exact ⟨fun _ => ⟨n, mem_putN.2 (.inl rfl), rfl⟩, fun _ => rfl⟩
    · rw [has_put_other e, h3]
      constructor
      · rintro ⟨m, hm, rfl⟩
        refine ⟨m, mem_putN.2 (.inr ⟨hm, ?_⟩), rfl⟩
        cases hb : keyB k (k.key n) m
        · rfl
        · exact absurd (by rw [keyB_iff.1 hb]) e
      · rintro ⟨m, hm, rfl⟩
        rcases mem_putN.1 hm with rfl | ⟨hm, _⟩
        · exact absurd rfl e
        · exact ⟨m, hm, rfl⟩
  · intro m hm z
    rcases mem_putN.1 hm with rfl | ⟨hm, hb⟩
    · exact atKey_put_same ti.isMap (kp_key hi) _ _
    · rw [atKey_put_other]
      · exact h4 m hm z
      · intro e
        rw [keyB_iff.2 (kp_inj (h.wf m hm) hi e)] at hb
        cases hb
theorem Mp.del {w : World} {mb : Nat} {L : List α} (h : Mp k w mb L) {p : Pf} (hi : wfP p) (ty : TypeId) : ∃ w', (Builtin.delete_ #[k.M, 33] ty #[.map (some mb), (Value.agg (pcells p).toArray)]).run Try.prog w = .ok (.tuple #[]) w' ∧ Mp k w' mb (delN k L p) ∧ w.grownBy w' (some mb) := by
  obtain ⟨D, h1, h2, h3, h4⟩ := h.ex
  obtain ⟨w', hr, hw, ht⟩ := h1.drop keyLawP k.und (kp_of hi) ty
  refine ⟨w', hr, ?_, ht.grown⟩
  have ti := h1.tidy keyLawP
  have hh := h.has_ h3 hi
  have hsz : size (D.del (kp p)) = (delN k L p).length := by
    have a1 := size_del (k := kp p) ti
    have a2 := delN_len p h.nd
    rw [hh, h2] at a1
    omega
  refine ⟨?_, fun x hx => h.wf x (mem_delN.1 hx).1, _, (by rw [← hsz]; exact tight hw), hsz, ?_, ?_⟩
  · exact List.Sublist.nodup (List.Sublist.map _ List.filter_sublist) h.nd
  · intro l
    by_cases e : l = kp p
    · subst e
      rw [has_del_same]
      refine ⟨fun h => (by cases h), ?_⟩
      rintro ⟨m, hm, e⟩
      have := (mem_delN.1 hm).2
      rw [keyB_iff.2 (kp_inj (h.wf m (mem_delN.1 hm).1) hi e)] at this
      cases this
    · rw [has_del_other e, h3]
      constructor
      · rintro ⟨m, hm, rfl⟩
        refine ⟨m, mem_delN.2 ⟨hm, ?_⟩, rfl⟩
        cases hb : keyB k p m
        · rfl
        · exact absurd (by rw [keyB_iff.1 hb]) e
      · rintro ⟨m, hm, rfl⟩
        exact ⟨m, (mem_delN.1 hm).1, rfl⟩
  · intro m hm z
    obtain ⟨hm1, hb⟩ := mem_delN.1 hm
    rw [atKey_del_other]
    · exact h4 m hm1 z
    · intro e
      rw [keyB_iff.2 (kp_inj (h.wf m hm1) hi e)] at hb
      cases hb
theorem Mp.resp {w : World} {mb : Nat} {L L' : List α} (h : Mp k w mb L) (e : L'.map (fun n => (k.key n, k.val n)) = L.map (fun n => (k.key n, k.val n))) : Mp k w mb L' := by
  have e1 : L'.map k.key = L.map k.key := by
    have := congrArg (List.map Prod.fst) e
    rw [List.map_map, List.map_map] at this
    exact this
  have el : L'.length = L.length := by have := congrArg List.length e; simpa using this
  have hm : ∀ n ∈ L', ∃ m ∈ L, k.key m = k.key n ∧ k.val m = k.val n := fun n hn => by
    have : (k.key n, k.val n) ∈ L.map (fun n => (k.key n, k.val n)) := by rw [← e]; exact List.mem_map_of_mem hn
    obtain ⟨m, hm, he⟩ := List.mem_map.1 this
    injection he with h1 h2
    exact ⟨m, hm, h1, h2⟩
  have hm' : ∀ n ∈ L, ∃ m ∈ L', k.key m = k.key n := fun n hn => by
    have : k.key n ∈ L'.map k.key := by rw [e1]; exact List.mem_map_of_mem hn
    obtain ⟨m, hm, he⟩ := List.mem_map.1 this
    exact ⟨m, hm, he⟩
  obtain ⟨D, h1, h2, h3, h4⟩ := h.ex
  refine ⟨by rw [e1]; exact h.nd, fun n hn => ?_, D, by rw [el]; exact h1, by rw [el]; exact h2, fun l => ?_, fun n hn z => ?_⟩
  · obtain ⟨m, hm, e, _⟩ := hm n hn
    rw [← e]; exact h.wf m hm
  · rw [h3]
    constructor
    · rintro ⟨n, hn, rfl⟩
      obtain ⟨m, hm, e⟩ := hm' n hn
      exact ⟨m, hm, by rw [e]⟩
    · rintro ⟨n, hn, rfl⟩
      obtain ⟨m, hm, e, _⟩ := hm n hn
      exact ⟨m, hm, by rw [e]⟩
  · obtain ⟨m, hm, e, e'⟩ := hm n hn
    rw [← e, ← e']
    exact h4 m hm z
/-- Look without a mark of having found. -/
theorem Mp.look1 {w : World} {mb : Nat} {L : List α} (h : Mp k w mb L) {p : Pf} (hi : wfP p) : (Instr.lookup k.M (.map (some mb)) (Value.agg (pcells p).toArray) false).run Try.prog w = .ok (k.val ((getN k L p).getD k.z)) w := by
  obtain ⟨D, h1, _, h3, h4⟩ := h.ex
  obtain ⟨v, ps, hr, hv⟩ := h1.lookup keyLawP k.und (k.zv w) rfl (kp_of hi)
  cases hg : getN k L p with
  | some n =>
    obtain ⟨hn, e1⟩ := getN_some hg
    have ha := h4 n hn
    rw [e1] at ha
    rw [ha] at hv
    rw [elV_inv hv] at hr
    exact hr
  | none =>
    have hf : has D (kp p) = false := by
      cases hc : has D (kp p) with
      | false => rfl
      | true =>
        obtain ⟨n, hn, e⟩ := (h3 _).1 hc
        have := getN_none hg n hn
        rw [keyB_iff.2 (kp_inj (h.wf n hn) hi e)] at this
        cases this
    rw [atKey_of_not_has hf] at hv
    rw [elV_inv hv] at hr
    exact hr
end Go.Proofs.Ytadnnjngflphjaa
