/-
  The document's Tell: pieces.
-/
import Derived.Test.YthofoocknmkdjaaM15
import Derived.Test.YthofoocknmkdjaaM17
namespace Go.Proofs.Ythofoocknmkdjaa
open Go.RowKit Go.Maps Go.Shelf
set_option linter.unusedSimpArgs false
set_option linter.unusedVariables false
set_option maxRecDepth 20000
theorem run_slH (g N c k : Nat) (hk : k ≤ N) (hN : N ≤ c) (hc : c ≤ 9223372036854775807) (w : World) : (Instr.slice 28 (.slice (some ⟨g, 0, none⟩) N c) none (some (.int .i64 (k : Int))) none).run Try.prog w = .ok (.slice (some ⟨g, 0, none⟩) k c) w := by
  have h1 : (k : Int) ≤ (c : Int) := by omega
  have h2 : (0 : Int) ≤ (k : Int) := by omega
  have hs : ∀ w, (Go.sizeOf 41).run Try.prog w = .ok 81 w := fun w => by kernel_rfl
  unfold Instr.slice
  simp [Sem.run_bind, run_underlying Try.underlying28, Instr.sliceBounds, Instr.sliceBound, hs, asIntOf, h1, h2, Addr.add]
  intro h; omega
theorem run_slL (g N c k : Nat) (hk : k ≤ N) (hN : N ≤ c) (hc : c ≤ 9223372036854775807) (w : World) : (Instr.slice 28 (.slice (some ⟨g, 0, none⟩) N c) (some (.int .i64 (k : Int))) none none).run Try.prog w = .ok (.slice (if c = k then some ⟨g, 0, none⟩ else some ⟨g, k * 81, none⟩) (N - k) (c - k)) w := by
  have h1 : (k : Int) ≤ (N : Int) := by omega
  have h2 : (0 : Int) ≤ (k : Int) := by omega
  have hs : ∀ w, (Go.sizeOf 41).run Try.prog w = .ok 81 w := fun w => by kernel_rfl
  unfold Instr.slice
  simp [Sem.run_bind, run_underlying Try.underlying28, Instr.sliceBounds, Instr.sliceBound, hs, asIntOf, h1, h2, Addr.add]
  rw [if_pos hk]
  by_cases hk0 : k = 0
  · subst hk0; simp
  · have hk5 : ¬ k * 81 = 0 := by omega
    simp only [if_neg hk5]
theorem run_slH0 (w : World) : (Instr.slice 28 (.slice none 0 0) none (some (.int .i64 0)) none).run Try.prog w = .ok (.slice none 0 0) w := by kernel_rfl
theorem run_slL0 (w : World) : (Instr.slice 28 (.slice none 0 0) (some (.int .i64 0)) none none).run Try.prog w = .ok (.slice none 0 0) w := by kernel_rfl
theorem bsN0 (w : World) : (Instr.buildSlice 28 0 #[]).run Try.prog w = .ok (.slice (some ⟨w.heap.size, 0, none⟩) 0 0) (w.alloc (.cells ([] : List Value).toArray 41)) := by kernel_rfl
/-- append of some to a row of the call's own, and where it lies then. -/
theorem run_app {w : World} (ty : TypeId) (B : Nat) (v : Value) (l us : List Ro) (hown : kN.Own w B v l) (al : Option Addr) (m c : Nat) (hm : m = us.length) (hal : al = none → c = 0) (hc : us ≠ [] → ∃ g o, al = some ⟨g, o, none⟩ ∧ ∀ (j : Nat) (n : Ro), us[j]? = some n → LS w g (o + j * 81) n) (hx : ∀ a, al = some a → a.spot = none) (hl : l.length + us.length ≤ 10000000) (hB : B ≤ w.heap.size) :
    ∃ v' w', (Builtin.append_ #[28, 28] ty #[v, .slice al m c]).run Try.prog w = .ok v' w' ∧ kN.Own w' B v' (l ++ us) ∧ w.grownBy w' v.ownBlock ∧ (v'.ownBlock = v.ownBlock ∨ v'.ownBlock = some w.heap.size) := by
  obtain ⟨i0, hi, hz0, hz1, hz2⟩ := info_parts kN.info
  cases al with
  | some ad =>
    have hcell : ∀ j u, (kN.cs us)[j]? = some u → w.cell? (ad.add j) = some u := fun j u hu => by
      have hjl : j < us.length * 81 := by
        have := (List.getElem?_eq_some_iff.1 hu).1
        rw [kN.cs_len] at this
        exact this
      have hne : us ≠ [] := by intro e; rw [e] at hjl; simp at hjl
      obtain ⟨g, o, e, hg⟩ := hc hne
      cases e
      have hq : j / 81 < us.length := by omega
      have h2 := hg (j / 81) us[j / 81] (List.getElem?_eq_getElem hq)
      have h3 := kN.cs_get us (j / 81) us[j / 81] (List.getElem?_eq_getElem hq) (j % 81) (Nat.mod_lt _ (by decide))
      rw [show (j / 81) * kN.s + j % 81 = j by show (j / 81) * 81 + j % 81 = j; omega, hu] at h3
      have h4 := h2 (j % 81) u h3.symm
      rw [Addr.add_mid]
      rw [show o + j = o + j / 81 * 81 + j % 81 by omega]
      exact h4
    obtain ⟨v', w', hr, h1, h2, _, h4⟩ := run_append_own_at (P := Try.prog) w B 28 ty 41 i0 (.agg (ocs zeroR).toArray) 81 128 Try.underlying28 hi hz0 hz1 hz2 (by simp [Value.cells, ocs_len]) (by decide) v l.length (kN.cs l) hown ad m c (kN.cs us) (by rw [kN.cs_len, hm]; rfl) hcell (kN.cs_one us) (by unfold maxLen; omega) (by omega) hB
    refine ⟨v', w', hr, ?_, h2, h4⟩
    unfold Kd.Own
    rw [kN.cs_append, List.length_append, ← hm]
    exact h1
  | none =>
    have hus : us = [] := by
      cases us with
      | nil => rfl
      | cons a r =>
        obtain ⟨g, o, e, _⟩ := hc (by simp)
        cases e
    subst hus
    obtain rfl := hal rfl
    obtain rfl : m = 0 := hm
    have hrun := run_append_owned_none (P := Try.prog) (w := w) B 28 ty 41 i0 81 Try.underlying28 hi v l.length (kN.cs l) hown
    exact ⟨v, w, hrun, by rw [List.append_nil]; exact hown, World.grownBy.refl _ _, .inl rfl⟩
section
variable {ops : Array Oper} {rest : List Oper} {op : Oper} {a : Act} {w w' : World} {Q : Exit → Act → World → Prop} {K : Act → World → Prop} {E : Prop} {S : World → Prop}
theorem sApp (m k : Operand) {mv kv r : Value} {T : TypeId} (hw : Region.wanted op (yielded ops a.tmps) = true) (ho : op.op = .call { callee := .builtin .append, args := #[m, k], argTypes := #[T, T] }) (hm : a.eval m = mv) (hk : a.eval k = kv)
    (hr : (Builtin.append_ #[T, T] op.type #[mv, kv]).run Try.prog w = .ok r w') (h : K (a.put op.dst r) w') : if Region.wanted op (yielded ops a.tmps) = true then Oper.wp Try.prog op a w K Q else E := by
  rw [if_pos hw]
  unfold Oper.wp
  simp [execOp, ho, resolve, invoke, builtin, hm, hk, hr, Result.andThen]
  exact h
theorem sStSl (x y : Operand) (hw : Region.wanted op (yielded ops a.tmps) = true) (ho : op.op = .store 28 x y) (b c : Nat) {U : TypeId} (cs : List Value) (ad : Option Addr) (n m : Nat) (hx : a.eval x = .pointer (some ⟨b, c, none⟩)) (hy : a.eval y = .slice ad n m) (hr : Row w b U cs) (hc : c < cs.length)
    (h : ∀ W, w.grownBy W (some b) → Row W b U (cs.set c (.slice ad n m)) → K (a.put op.dst undef) W) : if Region.wanted op (yielded ops a.tmps) = true then Oper.wp Try.prog op a w K Q else E := by
  rw [if_pos hw]
  have c1 : w.cell? ⟨b, c, none⟩ = some cs[c] := by rw [hr.cell]; exact List.getElem?_eq_getElem hc
  have c2 := hr.frozen c
  have h1 := h _ (grownBy_setCell w b c (.slice ad n m)) (hr.set c (.slice ad n m))
  unfold Oper.wp execOp
  simp only [ho, hx, hy]
  go_simp
  exact h1
end
theorem own_zero {w : World} {B g : Nat} (h : Row w g 41 []) (hB : B ≤ g) : kN.Own w B (.slice (some ⟨g, 0, none⟩) 0 0) [] :=
  ⟨by simp [Kd.cs], .inr ⟨g, 0, #[], rfl, hB, h, Nat.le_refl _, by unfold maxLen; omega, by simp, by simp [Kd.cs]⟩⟩
theorem row_apart {w : World} {g g' : Nat} {T : TypeId} {n : Ro} (h : Row w g T []) (h' : Row w g' T (ocs n)) : g ≠ g' := fun e => by
  unfold Row at h h'
  rw [e, h'] at h
  injection h with h
  injection h with h
  have := congrArg Array.size h
  simp [ocs_len] at this
/-- Where one is put in. -/
structure InsP (K : List Ro) (n : Ro) (k : Nat) : Prop where
  le : k ≤ K.length
  hi : ∀ x ∈ K.drop k, 0 < cmpN x n
  lo : ∀ x, 0 < k → K[k - 1]? = some x → ¬ 0 < cmpN x n
theorem app_one {W : World} (ty : TypeId) {B g : Nat} {v : Value} {l : List Ro} {n : Ro} (ho : kN.Own W B v l) (hr : Row W g 41 (ocs n)) (hl : l.length ≤ 9000000) (hB : B ≤ W.heap.size) : ∃ v' w', (Builtin.append_ #[28, 28] ty #[v, .slice (some ⟨g, 0, none⟩) 1 1]).run Try.prog W = .ok v' w' ∧ kN.Own w' B v' (l ++ [n]) ∧ W.grownBy w' v.ownBlock ∧ (v'.ownBlock = v.ownBlock ∨ v'.ownBlock = some W.heap.size) :=
  run_app ty B v l [n] ho _ 1 1 rfl (by simp) (fun _ => ⟨g, 0, rfl, fun j x hj => by
    match j, hj with
    | 0, rfl => exact hr.ro⟩) (fun a e => by cases e; rfl) (by simp; omega) hB
/-- The parts of the table's slice, and what appending them leaves. -/
def SlP (w : World) (K : List Ro) (ad : Option Addr) (c k : Nat) : Prop := ∃ s1 z1 s2 z2, (∀ z : Int, z = (k : Int) → ∀ W, (Instr.slice 28 (.slice ad K.length c) none (some (.int .i64 z)) none).run Try.prog W = .ok (.slice s1 k z1) W) ∧ (∀ z : Int, z = (k : Int) → ∀ W, (Instr.slice 28 (.slice ad K.length c) (some (.int .i64 z)) none none).run Try.prog W = .ok (.slice s2 (K.length - k) z2) W) ∧
  (∀ V, Below w.heap.size w V → ∀ W, Below V.heap.size V W → ∀ (ty : TypeId) (v : Value) (l : List Ro), kN.Own W V.heap.size v l → l.length ≤ 2000000 → ∃ v' w', (Builtin.append_ #[28, 28] ty #[v, .slice s1 k z1]).run Try.prog W = .ok v' w' ∧ kN.Own w' V.heap.size v' (l ++ K.take k) ∧ W.grownBy w' v.ownBlock ∧ (v'.ownBlock = v.ownBlock ∨ v'.ownBlock = some W.heap.size)) ∧
  (∀ V, Below w.heap.size w V → ∀ W, Below V.heap.size V W → ∀ (ty : TypeId) (v : Value) (l : List Ro), kN.Own W V.heap.size v l → l.length ≤ 2000000 → ∃ v' w', (Builtin.append_ #[28, 28] ty #[v, .slice s2 (K.length - k) z2]).run Try.prog W = .ok v' w' ∧ kN.Own w' V.heap.size v' (l ++ K.drop k) ∧ W.grownBy w' v.ownBlock ∧ (v'.ownBlock = v.ownBlock ∨ v'.ownBlock = some W.heap.size))
theorem Rb.parts {w : World} {B r : Nat} {most : Int} {K : List Ro} (h : Rb w B r most K) : ∃ ad c, Row w r 30 [.int .i64 most, .slice ad K.length c] ∧ (K ≠ [] → ∃ g, ad = some ⟨g, 0, none⟩ ∧ ∀ W, Below w.heap.size w W → ∀ (j : Nat) (n : Ro), K[j]? = some n → LS W g (j * 81) n) ∧ ∀ k, k ≤ K.length → SlP w K ad c k := by
  have hll := h.ll
  obtain ⟨ad, c, h1, h2⟩ := h.ex
  have hat : K ≠ [] → ∃ g, ad = some ⟨g, 0, none⟩ ∧ ∀ W, Below w.heap.size w W → ∀ (j : Nat) (n : Ro), K[j]? = some n → LS W g (j * 81) n := fun hne => by
    obtain ⟨ad', c', e, hat⟩ := Kd.own_at h2
    cases e
    obtain ⟨g, rfl, _, hg, _, hc⟩ := hat hne
    exact ⟨g, rfl, fun W hW j n hj => rangeAt_below (hc j n hj) hW hg⟩
  refine ⟨ad, c, h1, hat, fun k hk => ?_⟩
  rcases h2.2 with ⟨e, h0⟩ | ⟨g, cap, cur, e, hB, hh, hc1, hc2, hc3, hc4⟩
  · have hK : K = [] := List.eq_nil_of_length_eq_zero h0
    subst hK
    obtain ⟨rfl, rfl⟩ : ad = none ∧ c = 0 := by cases e; exact ⟨rfl, rfl⟩
    obtain rfl : k = 0 := by simpa using hk
    refine ⟨none, 0, none, 0, fun z hz => by subst hz; exact run_slH0, fun z hz => by subst hz; exact run_slL0, fun V hV W hW ty v l ho hl => ?_, fun V hV W hW ty v l ho hl => ?_⟩
    · exact run_app ty V.heap.size v l [] ho none 0 0 rfl (fun _ => rfl) (fun h => absurd rfl h) (fun a e => by cases e) (by simp; omega) hW.size
    · exact run_app ty V.heap.size v l [] ho none 0 0 rfl (fun _ => rfl) (fun h => absurd rfl h) (fun a e => by cases e) (by simp; omega) hW.size
  · obtain ⟨rfl, rfl⟩ : ad = some ⟨g, 0, none⟩ ∧ c = cap := by cases e; exact ⟨rfl, rfl⟩
    have hcm : c ≤ 9223372036854775807 := hc2
    have hLS : ∀ W, Below w.heap.size w W → ∀ (j : Nat) (n : Ro), K[j]? = some n → LS W g (j * 81) n := fun W hW j n hj => by
      have hne : K ≠ [] := by intro e; rw [e] at hj; simp at hj
      obtain ⟨g', e', hc⟩ := hat hne
      cases e'
      exact hc W hW j n hj
    refine ⟨some ⟨g, 0, none⟩, c, (if c = k then some ⟨g, 0, none⟩ else some ⟨g, k * 81, none⟩), c - k, fun z hz => by subst hz; exact run_slH g K.length c k hk hc1 hcm, fun z hz => by subst hz; exact run_slL g K.length c k hk hc1 hcm, fun V hV W hW ty v l ho hl => ?_, fun V hV W hW ty v l ho hl => ?_⟩
    · refine run_app ty V.heap.size v l (K.take k) ho _ k c (by rw [List.length_take, Nat.min_eq_left hk]) (by simp) (fun _ => ⟨g, 0, rfl, fun j n hj => ?_⟩) (fun a e => by cases e; rfl) (by rw [List.length_take, Nat.min_eq_left hk]; omega) hW.size
      rw [Nat.zero_add]
      exact hLS W (bt hV hW) j n (take_get hj)
    · refine run_app ty V.heap.size v l (K.drop k) ho _ (K.length - k) (c - k) (by rw [List.length_drop]) (by split <;> simp) (fun hne => ?_) (fun a e => by split at e <;> cases e <;> rfl) (by rw [List.length_drop]; omega) hW.size
      have hck : ¬ c = k := fun e => by
        apply hne
        exact List.drop_eq_nil_of_le (by omega)
      rw [if_neg hck]
      refine ⟨g, k * 81, rfl, fun j n hj => ?_⟩
      rw [List.getElem?_drop] at hj
      have := hLS W (bt hV hW) (k + j) n hj
      rwa [Nat.add_mul] at this
section
variable {ops : Array Oper} {rest : List Oper} {op : Oper} {a : Act} {w : World} {Q : Exit → Act → World → Prop}
/-- A route within a row is written: a number, the router, the next hop. -/
theorem mid16 (x y : Operand) (hw : Region.wanted op (yielded ops a.tmps) = true) (ho : op.op = .store 39 x y) (b o f : Nat) (A Z : List Value) (u u' : Ro) (n : Int) (hx : a.eval x = .pointer (some ⟨b, o + f, none⟩)) (hy : a.eval y = .int .u16 n) (hr : Row w b 41 (A ++ (ocs u ++ Z))) (hA : A.length = o) (hf : f < 81) (he : (ocs u).set f (.int .u16 n) = ocs u')
    (h : ∀ W, w.grownBy W (some b) → Row W b 41 (A ++ (ocs u' ++ Z)) → wpList Try.prog ops Q rest (a.put op.dst undef) W) : wpList Try.prog ops Q (op :: rest) a w :=
  st16w x y hw ho b (o + f) _ n hx hy hr (by simp only [List.length_append, ocs_len]; omega) fun W h1 h2 => h W h1 (by rwa [mid_set hA (by rw [ocs_len]; exact hf), he] at h2)
theorem mid64 (x y : Operand) (hw : Region.wanted op (yielded ops a.tmps) = true) (ho : op.op = .store 3 x y) (b o f : Nat) (A Z : List Value) (u u' : Ro) (n : Int) (hx : a.eval x = .pointer (some ⟨b, o + f, none⟩)) (hy : a.eval y = .int .i64 n) (hr : Row w b 41 (A ++ (ocs u ++ Z))) (hA : A.length = o) (hf : f < 81) (he : (ocs u).set f (.int .i64 n) = ocs u')
    (h : ∀ W, w.grownBy W (some b) → Row W b 41 (A ++ (ocs u' ++ Z)) → wpList Try.prog ops Q rest (a.put op.dst undef) W) : wpList Try.prog ops Q (op :: rest) a w :=
  st64w x y hw ho b (o + f) _ n hx hy hr (by simp only [List.length_append, ocs_len]; omega) fun W h1 h2 => h W h1 (by rwa [mid_set hA (by rw [ocs_len]; exact hf), he] at h2)
theorem midI (x y : Operand) (hw : Region.wanted op (yielded ops a.tmps) = true) (ho : op.op = .store 38 x y) (b o : Nat) (A Z : List Value) (u : Ro) (i : Id8) (hx : a.eval x = .pointer (some ⟨b, o + 51, none⟩)) (hy : a.eval y = idV i) (hr : Row w b 41 (A ++ (ocs u ++ Z))) (hA : A.length = o)
    (h : ∀ W, w.grownBy W (some b) → Row W b 41 (A ++ (ocs (u.sId i) ++ Z)) → wpList Try.prog ops Q rest (a.put op.dst undef) W) : wpList Try.prog ops Q (op :: rest) a w :=
  wpList_step fun K hK => by
    rw [if_pos hw]
    refine wp_store_mid _ x y ho b (o + 51) _ hx hy (by simpa [icells_len] using hr.thereMid (o := o + 51) (n := 8) (by simp only [List.length_append, ocs_len]; omega)) (by rw [infoI]; simp [icells_len]) (all_oneCell_toArray (icells_one i)) (hK _ _ (h _ (grownBy_setCells b _ _ _) ?_))
    have e : A ++ (ocs u ++ Z) = (A ++ (qcells u.p ++ (.int .i64 u.i :: acells u.a))) ++ (icells u.id ++ (omd u ++ (acells u.h ++ (otl u ++ Z)))) := by simp [ocs, List.append_assoc]
    rw [e] at hr
    have := Row.setMid (icells i) (A ++ (qcells u.p ++ (.int .i64 u.i :: acells u.a))) (icells u.id) (omd u ++ (acells u.h ++ (otl u ++ Z))) w hr (by rw [icells_len, icells_len])
    have el : (A ++ (qcells u.p ++ (.int .i64 u.i :: acells u.a))).length = o + 51 := by simp [qcells_len, acells_len, hA]
    rw [el] at this
    simpa [ocs, omd, otl, Ro.sId, List.append_assoc] using this
theorem midH (x y : Operand) (hw : Region.wanted op (yielded ops a.tmps) = true) (ho : op.op = .store 32 x y) (b o : Nat) (A Z : List Value) (u : Ro) (i : Ad) (hx : a.eval x = .pointer (some ⟨b, o + 62, none⟩)) (hy : a.eval y = (Value.agg (acells i).toArray)) (hr : Row w b 41 (A ++ (ocs u ++ Z))) (hA : A.length = o)
    (h : ∀ W, w.grownBy W (some b) → Row W b 41 (A ++ (ocs (u.sH i) ++ Z)) → wpList Try.prog ops Q rest (a.put op.dst undef) W) : wpList Try.prog ops Q (op :: rest) a w :=
  wpList_step fun K hK => by
    rw [if_pos hw]
    refine wp_store_mid _ x y ho b (o + 62) _ hx hy (by simpa [acells_len] using hr.thereMid (o := o + 62) (n := 16) (by simp only [List.length_append, ocs_len]; omega)) (by rw [infoA]; simp [acells_len]) (all_oneCell_toArray (acells_one i)) (hK _ _ (h _ (grownBy_setCells b _ _ _) ?_))
    have e : A ++ (ocs u ++ Z) = (A ++ (qcells u.p ++ (.int .i64 u.i :: (acells u.a ++ (icells u.id ++ omd u))))) ++ (acells u.h ++ (otl u ++ Z)) := by simp [ocs, List.append_assoc]
    rw [e] at hr
    have := Row.setMid (acells i) (A ++ (qcells u.p ++ (.int .i64 u.i :: (acells u.a ++ (icells u.id ++ omd u))))) (acells u.h) (otl u ++ Z) w hr (by rw [acells_len, acells_len])
    have el : (A ++ (qcells u.p ++ (.int .i64 u.i :: (acells u.a ++ (icells u.id ++ omd u))))).length = o + 62 := by simp [qcells_len, acells_len, icells_len, omd, hA]
    rw [el] at this
    simpa [ocs, omd, otl, Ro.sH, List.append_assoc] using this
end
/-- What the document's Tell answers. -/
def RtP (most : Int) (K : List Ro) (now : Int) (n : Ro) (f : Bool) (z e : Int) (K' : List Ro) : Prop :=
  ((n.d < 1 ∨ 2147483648 < n.d) ∧ z = 0 ∧ e = 2 ∧ K' = K) ∨ (¬ (n.d < 1 ∨ 2147483648 < n.d) ∧ getN K n.k = none ∧ (n.r = 65535 ∨ f = false) ∧ z = 3 ∧ e = 0 ∧ K' = K) ∨
  (¬ (n.d < 1 ∨ 2147483648 < n.d) ∧ getN K n.k = none ∧ ¬ (n.r = 65535 ∨ f = false) ∧ most ≤ K.length ∧ z = 0 ∧ e = 6 ∧ K' = K) ∨
  (¬ (n.d < 1 ∨ 2147483648 < n.d) ∧ getN K n.k = none ∧ ¬ (n.r = 65535 ∨ f = false) ∧ (K.length : Int) < most ∧ z = 1 ∧ e = 0 ∧ ∃ k, InsP K (madeN n now) k ∧ K' = K.take k ++ madeN n now :: K.drop k) ∨
  (¬ (n.d < 1 ∨ 2147483648 < n.d) ∧ ∃ (k : Nat) (old : Ro), K[k]? = some old ∧ getN K n.k = some old ∧ stayB old n f = true ∧ z = 3 ∧ e = 0 ∧ K' = K) ∨
  (¬ (n.d < 1 ∨ 2147483648 < n.d) ∧ ∃ (k : Nat) (old : Ro), K[k]? = some old ∧ getN K n.k = some old ∧ stayB old n f = false ∧ z = 2 ∧ e = 0 ∧ K' = K.set k (retold old now n))
theorem fnd_some {K : List Ro} {k : Ky} : (fndI K k = -1 ∧ getN K k = none) ∨ ∃ (j : Nat) (n : Ro), fndI K k = j ∧ K[j]? = some n ∧ getN K k = some n := by
  unfold fndI getN
  cases hf : K.findIdx? (keyB k) with
  | none =>
    left
    refine ⟨rfl, ?_⟩
    rw [List.findIdx?_eq_none_iff] at hf
    rw [List.find?_eq_none]
    intro x hx
    simp [hf x hx]
  | some j =>
    right
    obtain ⟨hk, h1, h2⟩ := List.findIdx?_eq_some_iff_getElem.1 hf
    refine ⟨j, K[j], rfl, List.getElem?_eq_getElem hk, ?_⟩
    have e : K = K.take j ++ K[j] :: K.drop (j + 1) := by rw [← List.drop_eq_getElem_cons hk, List.take_append_drop]
    conv => lhs; rw [e]
    rw [List.find?_append, List.find?_eq_none.2]
    · rw [List.find?_cons_of_pos h1]; rfl
    · intro x hx
      obtain ⟨a, ha, rfl⟩ := List.mem_take_iff_getElem.1 hx
      exact h2 a (by omega)
/-- A route of the table, and what another one in its place makes of it. -/
theorem Rb.set2 {w : World} {B r : Nat} {most : Int} {K : List Ro} {n n' : Ro} {k : Nat} (h : Rb w B r most K) (hk : K[k]? = some n) (hn : n'.ok) : ∃ g A Z c, Row w r 30 [.int .i64 most, .slice (some ⟨g, 0, none⟩) K.length c] ∧ Row w g 41 (A ++ (ocs n ++ Z)) ∧ A.length = k * 81 ∧ B ≤ g ∧ g ≠ r ∧ ∀ W, w.grownBy W (some g) → Row W g 41 (A ++ (ocs n' ++ Z)) → Rb W B r most (K.set k n') := by
  obtain ⟨ad, c, h1, h2⟩ := h.ex
  obtain ⟨g, A, Z, rfl, hB, hr, hA, hw⟩ := own_mid h2 hk
  have hne : g ≠ r := by
    rintro rfl
    unfold Row at h1 hr
    have e := Option.some.inj (h1.symm.trans hr)
    injection e with _ e2 _
    exact absurd e2 (by decide)
  refine ⟨g, A, Z, c, h1, hr, hA, hB, hne, fun W hg hR => ⟨⟨some ⟨g, 0, none⟩, c, ?_, ?_⟩, ?_, ?_⟩⟩
  · rw [List.length_set]; exact h1.keep hg (Ne.symm hne)
  · rw [List.length_set]; exact hw W n' hR
  · intro m hm
    rcases List.mem_or_eq_of_mem_set hm with h3 | h3
    · exact h.ok m h3
    · rw [h3]; exact hn
  · rw [List.length_set]; exact h.ll
end Go.Proofs.Ythofoocknmkdjaa
