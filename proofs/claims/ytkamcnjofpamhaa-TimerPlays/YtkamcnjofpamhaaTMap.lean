/-
  The timers by their names: the map of a queue.
-/
import Derived.Test.YtkamcnjofpamhaaTHeap
import Derived.Maps.OwnSet
import Derived.Maps.Views
namespace Go.Proofs.Ytkamcnjofpamhaa
open Go.RowKit Go.Maps
set_option linter.unusedSimpArgs false
/-- How a timer in the map reads: the number of its block. -/
def ptrElem (v : Value) : Option (DataW Unit × List MemPlace) :=
  match v with
  | .pointer (some ⟨b, 0, none⟩) => some (.lit (.int .i64 b), [])
  | .pointer none => some (.lit (.bool false), [])
  | _ => none
theorem ptrElem_some {v : Value} {b : Nat} {ps : List MemPlace} (h : ptrElem v = some (.lit (.int .i64 b), ps)) : v = .pointer (some ⟨b, 0, none⟩) := by
  unfold ptrElem at h
  split at h
  · rename_i c
    have e : c = b := by
      simp at h
      omega
    rw [e]
  · simp at h
  · cases h
theorem ptrElem_none {v : Value} {ps : List MemPlace} (h : ptrElem v = some (.lit (.bool false), ps)) : v = .pointer none := by
  unfold ptrElem at h
  split at h
  · simp at h
  · rfl
  · cases h
def key (s : ByteArray) : Lit := .string s.data.toList
theorem key_inj {s t : ByteArray} (h : key s = key t) : s = t := by
  unfold key at h
  simp at h
  cases s; cases t
  simp at h
  rw [h]
theorem law : Keyed Try.prog 9 := string_keyed Try.underlying9
theorem keyOf_nm {s : ByteArray} (hs : s.size ≤ maxLen) : keyOf Try.prog 9 (.string s) = some (key s) := WideMaps.keyOf_string_mk Try.underlying9 hs
theorem zeroP (w : World) : (zeroValue 64).run Try.prog w = .ok (.pointer none) w := by kernel_rfl
/-- The map leads from just these names to these timers. -/
structure Mp (w : World) (mb : Nat) (L : List Tm) : Prop where
  nd : (L.map Tm.nm).Nodup
  sz : ∀ t ∈ L, t.nm.size ≤ maxLen
  ex : ∃ D : DataW Unit, w.ownsMap Try.prog 9 ptrElem mb L.length D ∧ size D = L.length ∧ (∀ s : ByteArray, has D (key s) = true ↔ ∃ t ∈ L, t.nm = s) ∧ ∀ t ∈ L, D.atKey (key t.nm) (.lit (.bool false)) = .lit (.int .i64 t.b)
theorem tight {w : World} {b n : Nat} {D : DataW Unit} (h : w.ownsMap Try.prog 9 ptrElem b n D) : w.ownsMap Try.prog 9 ptrElem b (size D) D := by
  obtain ⟨es, clock, hb, F, hs, rfl⟩ := h
  exact ⟨es, clock, hb, F, by simp [size, length_sorted], rfl⟩
theorem Mp.perm {w : World} {mb : Nat} {L L' : List Tm} (h : Mp w mb L) (hp : L'.Perm L) : Mp w mb L' := by
  obtain ⟨D, h1, h2, h3, h4⟩ := h.ex
  refine ⟨(hp.map _).nodup_iff.2 h.nd, fun t ht => h.sz t (hp.mem_iff.1 ht), D, by rw [hp.length_eq]; exact h1, by rw [hp.length_eq]; exact h2, fun s => ?_, fun t ht => h4 t (hp.mem_iff.1 ht)⟩
  rw [h3]
  exact ⟨fun ⟨t, ht, e⟩ => ⟨t, hp.mem_iff.2 ht, e⟩, fun ⟨t, ht, e⟩ => ⟨t, hp.mem_iff.1 ht, e⟩⟩
theorem Mp.same {w w' : World} {mb : Nat} {L : List Tm} (h : Mp w mb L) (hb : w'.heap[mb]? = w.heap[mb]?) : Mp w' mb L := by
  obtain ⟨D, ⟨es, clock, h1, h5⟩, h2, h3, h4⟩ := h.ex
  exact ⟨h.nd, h.sz, D, ⟨es, clock, hb.trans h1, h5⟩, h2, h3, h4⟩
theorem Mp.lt {w : World} {mb : Nat} {L : List Tm} (h : Mp w mb L) : mb < w.heap.size := by
  obtain ⟨D, h1, _⟩ := h.ex
  exact h1.lt
theorem Mp.not_cells {w : World} {mb : Nat} {L : List Tm} (h : Mp w mb L) {b : Nat} {arr : Array Value} {T : TypeId} {f : Nat × Nat} (hb : w.heap[b]? = some (.cells arr T f)) : b ≠ mb := by
  obtain ⟨D, ⟨es, clock, h1, _⟩, _⟩ := h.ex
  intro e
  rw [e, h1] at hb
  cases hb
theorem Mp.hit {w : World} {mb : Nat} {L : List Tm} (h : Mp w mb L) {t : Tm} (ht : t ∈ L) : (Instr.lookup 59 (.map (some mb)) (.string t.nm) true).run Try.prog w = .ok (.tuple #[.pointer (some ⟨t.b, 0, none⟩), .bool true]) w := by
  obtain ⟨D, h1, _, h3, h4⟩ := h.ex
  obtain ⟨v, ps, hr, hv⟩ := h1.look_ok law Try.underlying59 (zeroP w) (show ptrElem (.pointer none) = some (.lit (.bool false), []) from rfl) (keyOf_nm (h.sz t ht))
  rw [h4 t ht] at hv
  rw [ptrElem_some hv, (h3 t.nm).2 ⟨t, ht, rfl⟩] at hr
  exact hr
theorem Mp.miss {w : World} {mb : Nat} {L : List Tm} (h : Mp w mb L) {s : ByteArray} (hs : s.size ≤ maxLen) (hn : ∀ t ∈ L, t.nm ≠ s) : (Instr.lookup 59 (.map (some mb)) (.string s) true).run Try.prog w = .ok (.tuple #[.pointer none, .bool false]) w := by
  obtain ⟨D, h1, _, h3, h4⟩ := h.ex
  obtain ⟨v, ps, hr, hv⟩ := h1.look_ok law Try.underlying59 (zeroP w) (show ptrElem (.pointer none) = some (.lit (.bool false), []) from rfl) (keyOf_nm hs)
  have hf : has D (key s) = false := by
    cases hc : has D (key s) with
    | false => rfl
    | true =>
      obtain ⟨t, ht, e⟩ := (h3 s).1 hc
      exact absurd e (hn t ht)
  rw [atKey_of_not_has hf] at hv
  rw [ptrElem_none hv, hf] at hr
  exact hr
theorem keyLit (s : ByteArray) : WideAt.IsKeyLit (key s) := trivial
theorem key_ne {s t : ByteArray} (h : s ≠ t) : key s ≠ key t := fun e => h (key_inj e)
theorem Mp.put {w w' : World} {mb : Nat} {L : List Tm} (h : Mp w mb L) {t : Tm} (hs : t.nm.size ≤ maxLen) (hn : ∀ s ∈ L, s.nm ≠ t.nm) {D : DataW Unit} (hD : w.ownsMap Try.prog 9 ptrElem mb L.length D) (hw : w'.ownsMap Try.prog 9 ptrElem mb (L.length + 1) (D.put (key t.nm) (.lit (.int .i64 t.b)))) : Mp w' mb (L ++ [t]) := by
  obtain ⟨D', h1, h2, h3, h4⟩ := h.ex
  have hDD : D' = D := by
    obtain ⟨es, clock, hb, _, _, rfl⟩ := h1
    obtain ⟨es', clock', hb', _, _, rfl⟩ := hD
    rw [hb] at hb'
    cases hb'
    rfl
  subst hDD
  have ti := h1.tidy law
  have hf : has D' (key t.nm) = false := by
    cases hc : has D' (key t.nm) with
    | false => rfl
    | true =>
      obtain ⟨s, hs', e⟩ := (h3 t.nm).1 hc
      exact absurd e (hn s hs')
  refine ⟨?_, ?_, _, (by rw [show (L ++ [t]).length = L.length + 1 by simp]; exact hw), ?_, ?_, ?_⟩
  · rw [List.map_append, List.nodup_append]
    refine ⟨h.nd, by simp, ?_⟩
    intro a ha b hb
    obtain ⟨s, hs', rfl⟩ := List.mem_map.1 ha
    simp at hb
    rw [hb]
    exact hn s hs'
  · intro s hs'
    rcases List.mem_append.1 hs' with h5 | h5
    · exact h.sz s h5
    · simp at h5
      rw [h5]; exact hs
  · rw [size_put ti, hf, h2]
    simp
  · intro s
    by_cases e : t.nm = s
    · subst e
      rw [has_put_same ti.isMap (keyLit _)]
      exact ⟨fun _ => ⟨t, by simp, rfl⟩, fun _ => rfl⟩
    · rw [has_put_other (key_ne (fun e' => e e'.symm)), h3]
      exact ⟨fun ⟨x, hx, e'⟩ => ⟨x, List.mem_append_left _ hx, e'⟩, fun ⟨x, hx, e'⟩ => by
        rcases List.mem_append.1 hx with h5 | h5
        · exact ⟨x, h5, e'⟩
        · simp at h5
          rw [h5] at e'
          exact absurd e' e⟩
  · intro s hs'
    rcases List.mem_append.1 hs' with h5 | h5
    · rw [atKey_put_other (key_ne (hn s h5))]
      exact h4 s h5
    · simp at h5
      subst h5
      exact atKey_put_same ti.isMap (keyLit _) _ _
theorem Mp.del {w w' : World} {mb : Nat} {L K : List Tm} {t : Tm} (h : Mp w mb L) (hp : (K ++ [t]).Perm L) {D : DataW Unit} {n : Nat} (hD : w.ownsMap Try.prog 9 ptrElem mb L.length D) (hw : w'.ownsMap Try.prog 9 ptrElem mb n (D.del (key t.nm))) : Mp w' mb K := by
  have h' := h.perm hp
  obtain ⟨D', h1, h2, h3, h4⟩ := h'.ex
  have hDD : D' = D := by
    obtain ⟨es, clock, hb, _, _, rfl⟩ := h1
    obtain ⟨es', clock', hb', _, _, rfl⟩ := hD
    rw [hb] at hb'
    cases hb'
    rfl
  subst hDD
  have ti := h1.tidy law
  have hnd := h'.nd
  rw [List.map_append, List.nodup_append] at hnd
  have hne : ∀ s ∈ K, s.nm ≠ t.nm := fun s hs => hnd.2.2 s.nm (List.mem_map_of_mem hs) t.nm (by simp)
  have hsz : size (D'.del (key t.nm)) = K.length := by
    have := size_del (k := key t.nm) ti
    rw [(h3 t.nm).2 ⟨t, by simp, rfl⟩, h2] at this
    simp at this
    omega
  refine ⟨hnd.1, fun s hs => h'.sz s (List.mem_append_left _ hs), _, (by rw [← hsz]; exact tight hw), hsz, ?_, ?_⟩
  · intro s
    by_cases e : t.nm = s
    · subst e
      rw [has_del_same]
      exact ⟨fun h => (by cases h), fun ⟨x, hx, e'⟩ => absurd e' (hne x hx)⟩
    · rw [has_del_other (key_ne (fun e' => e e'.symm)), h3]
      exact ⟨fun ⟨x, hx, e'⟩ => by
        rcases List.mem_append.1 hx with h5 | h5
        · exact ⟨x, h5, e'⟩
        · simp at h5
          rw [h5] at e'
          exact absurd e' e, fun ⟨x, hx, e'⟩ => ⟨x, List.mem_append_left _ hx, e'⟩⟩
  · intro s hs
    rw [atKey_del_other (key_ne (hne s hs))]
    exact h4 s (List.mem_append_left _ hs)
/-- The time of one is another. -/
def setAt (L : List Tm) (j : Nat) (a : Int) : List Tm := match L[j]? with | some t => L.set j ⟨t.b, a, t.nm⟩ | none => L
theorem setAt_eq {L : List Tm} {j : Nat} (hj : j < L.length) (a : Int) : setAt L j a = L.set j ⟨L[j].b, a, L[j].nm⟩ := by simp [setAt, hj]
theorem setAt_len (L : List Tm) (j : Nat) (a : Int) : (setAt L j a).length = L.length := by unfold setAt; split <;> simp
theorem setAt_at {L : List Tm} {j k : Nat} {a : Int} (hj : j < L.length) (hk : k < L.length) (hk' : k < (setAt L j a).length) : (setAt L j a)[k].b = L[k].b ∧ (setAt L j a)[k].nm = L[k].nm ∧ (setAt L j a)[k].tm = if k = j then a else L[k].tm := by
  have e := setAt_eq hj a
  simp only [e]
  rw [List.getElem_set]
  by_cases h : j = k
  · subst h; simp
  · rw [if_neg h, if_neg (fun h' => h h'.symm)]; simp
theorem setAt_bn {L : List Tm} {j : Nat} {a : Int} : (setAt L j a).map (fun t => (t.b, t.nm)) = L.map (fun t => (t.b, t.nm)) := by
  by_cases hj : j < L.length
  · rw [setAt_eq hj, List.map_set]
    apply List.ext_getElem?
    intro k
    rw [List.getElem?_set]
    by_cases h : j = k
    · subst h; simp [hj]
    · rw [if_neg h]
  · unfold setAt
    rw [List.getElem?_eq_none (by omega)]
theorem Mp.bn {w : World} {mb : Nat} {L L' : List Tm} (h : Mp w mb L) (e : L'.map (fun t => (t.b, t.nm)) = L.map (fun t => (t.b, t.nm))) : Mp w mb L' := by
  have hl : L'.length = L.length := by have := congrArg List.length e; simpa using this
  have hm : ∀ t ∈ L', ∃ s ∈ L, s.b = t.b ∧ s.nm = t.nm := fun t ht => by
    have : (t.b, t.nm) ∈ L.map (fun t => (t.b, t.nm)) := by rw [← e]; exact List.mem_map.2 ⟨t, ht, rfl⟩
    obtain ⟨s, hs, e'⟩ := List.mem_map.1 this
    simp at e'
    exact ⟨s, hs, e'⟩
  have hm' : ∀ t ∈ L, ∃ s ∈ L', s.b = t.b ∧ s.nm = t.nm := fun t ht => by
    have : (t.b, t.nm) ∈ L'.map (fun t => (t.b, t.nm)) := by rw [e]; exact List.mem_map.2 ⟨t, ht, rfl⟩
    obtain ⟨s, hs, e'⟩ := List.mem_map.1 this
    simp at e'
    exact ⟨s, hs, e'⟩
  have hn : L'.map Tm.nm = L.map Tm.nm := by
    have := congrArg (List.map Prod.snd) e
    simpa [List.map_map, Function.comp_def] using this
  obtain ⟨D, h1, h2, h3, h4⟩ := h.ex
  refine ⟨hn ▸ h.nd, fun t ht => ?_, D, hl ▸ h1, by rw [hl]; exact h2, fun s => ?_, fun t ht => ?_⟩
  · obtain ⟨s, hs, _, e'⟩ := hm t ht
    rw [← e']; exact h.sz s hs
  · rw [h3]
    exact ⟨fun ⟨t, ht, e'⟩ => by obtain ⟨x, hx, _, e2⟩ := hm' t ht; exact ⟨x, hx, e2.trans e'⟩, fun ⟨t, ht, e'⟩ => by obtain ⟨x, hx, _, e2⟩ := hm t ht; exact ⟨x, hx, e2.trans e'⟩⟩
  · obtain ⟨s, hs, e1, e'⟩ := hm t ht
    rw [← e', ← e1]; exact h4 s hs
end Go.Proofs.Ytkamcnjofpamhaa
