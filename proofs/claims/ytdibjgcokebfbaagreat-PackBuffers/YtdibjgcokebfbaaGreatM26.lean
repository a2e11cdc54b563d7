/-
  What a packet has told, as the document keeps it (culvertref06.State), in memory: cells, loads, stores.
-/
import Derived.Test.YtdibjgcokebfbaaGreatM24
import Derived.Test.YtdibjgcokebfbaaGreatM25
import Derived.Test.YtdibjgcokebfbaaGreatM04
import Derived.Deep.DeepCutAuto
namespace Go.Proofs.YtdibjgcokebfbaaGreat
open Go.RowKit
set_option linter.unusedSimpArgs false
set_option maxRecDepth 20000
def zD : List Value := List.replicate 48 (.int .u8 0) ++ List.replicate 3 (.bool false)
/-- The cells of a State: a router, whether there is one, next hops by their kind, and which there are; no default prefix. -/
def scells (o : TS) (h : Bool) : List Value := icells o.r ++ ([.bool h] ++ (acells zeroA ++ (acells o.h4 ++ (acells o.h6 ++ ([.bool false, .bool o.k4, .bool o.k6] ++ zD)))))
theorem scells_len (o : TS) (h : Bool) : (scells o h).length = 111 := by simp [scells, icells_len, acells_len, zD]
theorem scells_one (o : TS) (h : Bool) : ∀ u ∈ scells o h, u.oneCell' = true := by
  intro u hu
  simp only [scells, List.mem_append] at hu
  rcases hu with h | h | h | h | h | h | h
  · exact icells_one _ u h
  · simp at h; subst h; rfl
  · exact acells_one _ u h
  · exact acells_one _ u h
  · exact acells_one _ u h
  · simp at h; rcases h with rfl | rfl | rfl <;> rfl
  · simp [zD] at h
    rcases h with rfl | rfl <;> rfl
theorem infoS : (Tryz.prog.info? 121).map (·.size) = some 111 := by kernel_rfl
theorem infoSz : (Tryz.prog.info? 121).map (·.zero) = some (some (.agg (scells zeroO false).toArray)) := by kernel_rfl
theorem sc8 (o : TS) (h : Bool) : (scells o h)[8]? = some (.bool h) := by
  simp [scells, icells_len, acells_len]
theorem sc58 (o : TS) (h : Bool) : (scells o h)[58]? = some (.bool o.k4) := by
  simp [scells, List.getElem?_append, icells_len, acells_len]
theorem sc59 (o : TS) (h : Bool) : (scells o h)[59]? = some (.bool o.k6) := by
  simp [scells, List.getElem?_append, icells_len, acells_len]
theorem ss8 (o : TS) (h b : Bool) : (scells o h).set 8 (.bool b) = scells o b := by
  simp [scells, List.set_append, icells_len, acells_len]
theorem ss58 (o : TS) (h b : Bool) : (scells o h).set 58 (.bool b) = scells { o with k4 := b } h := by
  simp [scells, List.set_append, icells_len, acells_len]
theorem ss59 (o : TS) (h b : Bool) : (scells o h).set 59 (.bool b) = scells { o with k6 := b } h := by
  simp [scells, List.set_append, icells_len, acells_len]
theorem Row.sId {w : World} {g : Nat} {t : TypeId} {o : TS} {h : Bool} (hr : Row w g t (scells o h)) : w.rangeAt g 0 (icells o.r) := rangeAt_left hr.range
theorem Row.s4 {w : World} {g : Nat} {t : TypeId} {o : TS} {h : Bool} (hr : Row w g t (scells o h)) : LA w g 25 o.h4 := by
  have e : scells o h = (icells o.r ++ ([.bool h] ++ acells zeroA)) ++ (acells o.h4 ++ (acells o.h6 ++ ([.bool false, .bool o.k4, .bool o.k6] ++ zD))) := by simp [scells]
  have := hr.range
  rw [e] at this
  have h2 := rangeAt_left (rangeAt_right this (k := 25) (by simp [icells_len, acells_len]))
  show w.rangeAt g 25 (acells o.h4)
  simpa using h2
theorem Row.s6 {w : World} {g : Nat} {t : TypeId} {o : TS} {h : Bool} (hr : Row w g t (scells o h)) : LA w g 41 o.h6 := by
  have e : scells o h = (icells o.r ++ ([.bool h] ++ (acells zeroA ++ acells o.h4))) ++ (acells o.h6 ++ ([.bool false, .bool o.k4, .bool o.k6] ++ zD)) := by simp [scells]
  have := hr.range
  rw [e] at this
  have h2 := rangeAt_left (rangeAt_right this (k := 41) (by simp [icells_len, acells_len]))
  show w.rangeAt g 41 (acells o.h6)
  simpa using h2
theorem Row.tId' {w : World} {g : Nat} {t : TypeId} {o : TS} {h : Bool} (i : Id8) (hr : Row w g t (scells o h)) : Row (w.setCells g 0 (icells i)) g t (scells { o with r := i } h) :=
  Row.setMid (icells i) [] (icells o.r) _ w hr (by rw [icells_len, icells_len])
theorem Row.t4 {w : World} {g : Nat} {t : TypeId} {o : TS} {h : Bool} (c : Ad) (hr : Row w g t (scells o h)) : Row (w.setCells g 25 (acells c)) g t (scells { o with h4 := c } h) := by
  have e : ∀ o : TS, scells o h = (icells o.r ++ ([.bool h] ++ acells zeroA)) ++ (acells o.h4 ++ (acells o.h6 ++ ([.bool false, .bool o.k4, .bool o.k6] ++ zD))) := fun o => by simp [scells]
  rw [e] at hr
  have := Row.setMid (acells c) (icells o.r ++ ([.bool h] ++ acells zeroA)) (acells o.h4) _ w hr (by rw [acells_len, acells_len])
  rw [show (icells o.r ++ ([Value.bool h] ++ acells zeroA)).length = 25 by simp [icells_len, acells_len]] at this
  rw [e]
  exact this
theorem Row.t6 {w : World} {g : Nat} {t : TypeId} {o : TS} {h : Bool} (c : Ad) (hr : Row w g t (scells o h)) : Row (w.setCells g 41 (acells c)) g t (scells { o with h6 := c } h) := by
  have e : ∀ o : TS, scells o h = (icells o.r ++ ([.bool h] ++ (acells zeroA ++ acells o.h4))) ++ (acells o.h6 ++ ([.bool false, .bool o.k4, .bool o.k6] ++ zD)) := fun o => by simp [scells]
  rw [e] at hr
  have := Row.setMid (acells c) (icells o.r ++ ([.bool h] ++ (acells zeroA ++ acells o.h4))) (acells o.h6) _ w hr (by rw [acells_len, acells_len])
  rw [show (icells o.r ++ ([Value.bool h] ++ (acells zeroA ++ acells o.h4))).length = 41 by simp [icells_len, acells_len]] at this
  rw [e]
  exact this
section
variable {ops : Array Oper} {rest : List Oper} {op : Oper} {a : Act} {w : World} {Q : Exit → Act → World → Prop} {K : Act → World → Prop} {E : Prop} {S : World → Prop}
theorem ldS (x : Operand) (hw : Region.wanted op (yielded ops a.tmps) = true) (ho : op.op = .load 121 x) (b : Nat) (o : TS) (k : Bool) (hx : a.eval x = .pointer (some ⟨b, 0, none⟩)) (hc : Row w b 121 (scells o k))
    (h : wpList Tryz.prog ops Q rest (a.put op.dst (.agg (scells o k).toArray)) w) : wpList Tryz.prog ops Q (op :: rest) a w :=
  wpList_step fun K hK => by
    rw [if_pos hw]
    exact wp_load_mid _ x ho b 0 hx (scells o k) _ hc.range Tryz.underlying121 rfl (by rw [infoS, scells_len]) (hK _ _ h)
theorem yS {b : Nat} {x : Operand} (o : TS) (k : Bool) (hS : ∀ w, S w → Row w b 121 (scells o k)) (hw : Region.wanted op (yielded ops a.tmps) = true) (ho : op.op = .load 121 x) (hx : a.eval x = .pointer (some ⟨b, 0, none⟩)) : YieldsIf Tryz.prog ops S op (.agg (scells o k).toArray) a :=
  yieldsIf_load_mid hw _ x ho b 0 hx (scells o k) _ (fun w h => (hS w h).range) Tryz.underlying121 rfl (by rw [infoS, scells_len])
theorem wp_stS (x y : Operand) (ho : op.op = .store 121 x y) (b : Nat) (o u : TS) (k j : Bool) (hx : a.eval x = .pointer (some ⟨b, 0, none⟩)) (hy : a.eval y = .agg (scells o k).toArray) (hr : Row w b 121 (scells u j))
    (h : ∀ W, w.grownBy W (some b) → Row W b 121 (scells o k) → K (a.put op.dst undef) W) : Oper.wp Tryz.prog op a w K Q := by
  refine wp_store_mid _ x y ho b 0 _ hx hy (by simpa [scells_len] using hr.there (n := 111) (by rw [scells_len]; omega)) (by rw [infoS]; simp [scells_len]) (all_oneCell_toArray (scells_one o k)) (h _ (grownBy_setCells b _ _ _) ?_)
  have := Row.setCells (scells o k) [] w (scells u j) hr (by rw [scells_len, scells_len])
  simpa using this
theorem stS (x y : Operand) (hw : Region.wanted op (yielded ops a.tmps) = true) (ho : op.op = .store 121 x y) (b : Nat) (o u : TS) (k j : Bool) (hx : a.eval x = .pointer (some ⟨b, 0, none⟩)) (hy : a.eval y = .agg (scells o k).toArray) (hr : Row w b 121 (scells u j))
    (h : ∀ W, w.grownBy W (some b) → Row W b 121 (scells o k) → wpList Tryz.prog ops Q rest (a.put op.dst undef) W) : wpList Tryz.prog ops Q (op :: rest) a w :=
  wpList_step fun K hK => by
    rw [if_pos hw]
    exact wp_stS x y ho b o u k j hx hy hr fun W h1 h2 => hK _ _ (h W h1 h2)
theorem sStS (x y : Operand) (hw : Region.wanted op (yielded ops a.tmps) = true) (ho : op.op = .store 121 x y) (b : Nat) (o u : TS) (k j : Bool) (hx : a.eval x = .pointer (some ⟨b, 0, none⟩)) (hy : a.eval y = .agg (scells o k).toArray) (hr : Row w b 121 (scells u j))
    (h : ∀ W, w.grownBy W (some b) → Row W b 121 (scells o k) → K (a.put op.dst undef) W) : if Region.wanted op (yielded ops a.tmps) = true then Oper.wp Tryz.prog op a w K Q else E := by
  rw [if_pos hw]
  exact wp_stS x y ho b o u k j hx hy hr h
end
theorem lvS {w : World} {g : Nat} {o : TS} {k : Bool} (h : Row w g 121 (scells o k)) : (loadVar 121 ⟨g, 0, none⟩).run Tryz.prog w = .ok (.agg (scells o k).toArray) w :=
  run_loadVar_mid w g 0 _ (scells o k) _ h.range Tryz.underlying121 rfl (by rw [infoS, scells_len])
/-- The document's ae. -/
theorem rae_any (a : Ad) (w : World) : Calls Tryz.prog 92 #[(Value.agg (acells a).toArray)] w (Gives w (.int .i64 (if famA a = 4 then 1 else 2))) := by
  have RA := Row.new w 23 (acells a)
  have BA := ba w (.cells (acells a).toArray 23)
  have HF := rfamily_any a
  generalize famA a = f at *
  by_cases hf : f = 4
  · have h' : (f == 4) = true := by simpa using hf
    rw [if_pos hf]
    clear hf
    go_enter Tryz.func92, Tryz.ntmps92
    go_wp2_with (first
      | (go_at_call 52; refine (HF _).mono ?_; rintro e w2 ⟨rfl, b2⟩)
      | (refine ldA (.tmp 1) (by rfl) rfl w.heap.size 0 a rfl RA.range ?_))
    go_ret
    exact ⟨rfl, bt BA b2⟩
  · have h' : (f == 4) = false := by simpa using hf
    rw [if_neg hf]
    clear hf
    go_enter Tryz.func92, Tryz.ntmps92
    go_wp2_with (first
      | (go_at_call 52; refine (HF _).mono ?_; rintro e w2 ⟨rfl, b2⟩)
      | (refine ldA (.tmp 1) (by rfl) rfl w.heap.size 0 a rfl RA.range ?_))
    go_ret
    exact ⟨rfl, bt BA b2⟩
end Go.Proofs.YtdibjgcokebfbaaGreat

namespace Go.Proofs.YtdibjgcokebfbaaGreat
open Go.RowKit
set_option linter.unusedSimpArgs false
section
variable {P : Program} {ops : Array Oper} {Q : Exit → Act → World → Prop} {md : Region.Mode} {S : World → Prop} {N : Nat}
/-- Whatever order is picked from here on; S holds behind every operation but number N. -/
def wpAnyN (P : Program) (md : Region.Mode) (ops : Array Oper) (Q : Exit → Act → World → Prop) (S : World → Prop) (N : Nat) : Nat → Array Bool → Act → World → Prop
  | 0, listed, a, w => Region.ready md ops listed = [] ∧ Q .normal a w
  | fuel + 1, listed, a, w =>
    (Region.ready md ops listed = [] → Q .normal a w) ∧
    ∀ i ∈ Region.ready md ops listed, wpOp P ops Q i (fun a' w' => (i = N ∨ S w') ∧ wpAnyN P md ops Q S N fuel (listed.setIfInBounds i true) a' w') a w
theorem wpAny_of_N : ∀ (fuel : Nat) (listed : Array Bool) (a : Act) (w : World), wpAnyN P md ops Q S N fuel listed a w → wpAny P md ops Q fuel listed a w
  | 0, _, _, _, h => h
  | fuel + 1, _, _, _, h => ⟨h.1, fun i hi => wpOp_mono (fun a' w' h' => wpAny_of_N fuel _ a' w' h'.2) (h.2 i hi)⟩
theorem set_sub {listed F : Array Bool} {j : Nat} (h : ∀ k, listed.getD k false = true → F.getD k false = true) (hj : F.getD j false = true) : ∀ k, (listed.setIfInBounds j true).getD k false = true → F.getD k false = true := by
  intro k hk
  by_cases e : j = k
  · subst e; exact hj
  · rw [getD_set_ne false e] at hk
    exact h k hk
theorem wpAnyN_first {i : Nat} {oi : Oper} {v : Value} (hi : ops[i]? = some oi) (hsel : ∀ (j : Nat) (o : Oper) cs b, ops[j]? = some o → o.op ≠ .select cs b)
    (hQ : ∀ c a w, Q (.panic c) (a.put oi.dst v) w → Q (.panic c) a w) (F : Array Bool) (hN : F.getD N false = false)
    (hF : ∀ j oj, ops[j]? = some oj → j ≠ i → (∀ e ∈ oj.after, Region.binds md e = true → F.getD e.on false = true) → F.getD j false = true) :
    ∀ (fuel : Nat) (listed : Array Bool) (a : Act) (w : World), (∀ k, listed.getD k false = true → F.getD k false = true) →
      (∀ j oj, ops[j]? = some oj → j ≠ i → listed.getD j true = false → (∀ e ∈ oj.after, Region.binds md e = true → e.on ≠ i) → oi.apart ops oj = true) →
      i ∈ Region.ready md ops listed → YieldsIf P ops S oi v a → S w →
      wpAnyN P md ops Q S N fuel (listed.setIfInBounds i true) (a.put oi.dst v) w → wpAnyN P md ops Q S N (fuel + 1) listed a w := by
  intro fuel
  induction fuel with
  | zero =>
    intro listed a w _ _ hr hy hS H
    refine ⟨fun h => (by rw [h] at hr; cases hr), fun j hj => ?_⟩
    by_cases hji : j = i
    · subst hji; exact hy.wpOp hi hS ⟨.inr hS, H⟩
    · have := ready_mono hj hji
      rw [H.1] at this
      cases this
  | succ fuel ih =>
    intro listed a w hsub hfree hr hy hS H
    refine ⟨fun h => (by rw [h] at hr; cases hr), fun j hj => ?_⟩
    by_cases hji : j = i
    · subst hji; exact hy.wpOp hi hS ⟨.inr hS, H⟩
    · have h1 := H.2 j (ready_mono hj hji)
      obtain ⟨hjun, oj, hoj, hall⟩ := mem_ready.1 hj
      have hjF : F.getD j false = true := hF j oj hoj hji (fun e he hb => hsub _ (hall e he hb))
      have hjN : j ≠ N := fun e => by rw [e, hN] at hjF; cases hjF
      have hnot : ∀ e ∈ oj.after, Region.binds md e = true → e.on ≠ i := fun e he hb heq => by
        have h1 := hall e he hb
        have h0 := (mem_ready.1 hr).1
        rw [heq] at h1
        rcases Nat.lt_or_ge i listed.size with h' | h'
        · simp [h'] at h0 h1; rw [h0] at h1; cases h1
        · simp [Array.getElem?_eq_none h'] at h1
      have h2 := wpOp_putIf hoj (hfree j oj hoj hji hjun hnot) (fun cs b => hsel i oi cs b hi) (fun cs b => hsel j oj cs b hoj) hQ hy h1
      have hfree' : ∀ k ok, ops[k]? = some ok → k ≠ i → (listed.setIfInBounds j true).getD k true = false →
          (∀ e ∈ ok.after, Region.binds md e = true → e.on ≠ i) → oi.apart ops ok = true := fun k ok hk hki hun hno => by
        refine hfree k ok hk hki ?_ hno
        by_cases hjk : j = k
        · subst hjk; exact hjun
        · rw [getD_set_ne true hjk] at hun; exact hun
      refine wpOp_mono (fun a' w' h3 => ⟨h3.2.1, ih (listed.setIfInBounds j true) a' w' (set_sub hsub hjF) hfree' (ready_mono hr (Ne.symm hji)) h3.1 (h3.2.1.resolve_left hjN) ?_⟩) h2
      rw [Array.setIfInBounds_comm _ _ hji]
      exact h3.2.2
/-- F holds what may come up ahead of number i; N is not in it. -/
def closedB (md : Region.Mode) (ops : Array Oper) (F listed : Array Bool) (i N : Nat) : Bool :=
  (List.range ops.size).all (fun j => j == i || F.getD j false || (match ops[j]? with | some o => o.after.any (fun e => Region.binds md e && !F.getD e.on false) | none => true)) && !F.getD N false && (List.range listed.size).all (fun k => !listed.getD k false || F.getD k false)
theorem takeN_lit {i : Nat} {oi : Oper} {rest : List Oper} {v : Value} {fuel : Nat} {listed : Array Bool} {a : Act} {w : World} (F : Array Bool) (hi : ops.toList.drop i = oi :: rest)
    (hs : Region.noSelect ops = true) (hf : Region.free md ops listed i = true) (hr : (Region.ready md ops listed).contains i = true) (hc : closedB md ops F listed i N = true)
    (hQ : ∀ c a w, Q (.panic c) (a.put oi.dst v) w → Q (.panic c) a w) (hy : YieldsIf P ops S oi v a) (hS : S w)
    (h : wpAnyN P md ops Q S N fuel (listed.setIfInBounds i true) (a.put oi.dst v) w) : wpAnyN P md ops Q S N (fuel + 1) listed a w := by
  unfold closedB at hc
  rw [Bool.and_eq_true, Bool.and_eq_true, List.all_eq_true, List.all_eq_true] at hc
  obtain ⟨⟨h1, h2⟩, h3⟩ := hc
  refine wpAnyN_first (at_lit hi) (Region.noSelect_spec hs) hQ F (by simpa using h2) (fun j oj hoj hji hall => ?_) fuel listed a w (fun k hk => ?_) (Region.free_spec (at_lit hi) hf) (by simpa using hr) hy hS h
  · have hjl : j < ops.size := (Array.getElem?_eq_some_iff.1 hoj).1
    have := h1 j (List.mem_range.2 hjl)
    rw [hoj] at this
    simp only [Bool.or_eq_true, beq_iff_eq] at this
    rcases this with (h5 | h5) | h5
    · exact absurd h5 hji
    · exact h5
    · rw [Array.any_eq_true'] at h5
      obtain ⟨e, he, h6⟩ := h5
      rw [Bool.and_eq_true] at h6
      rw [hall e he h6.1] at h6
      cases h6.2
  · rcases Nat.lt_or_ge k listed.size with h' | h'
    · have := h3 k (List.mem_range.2 h')
      rw [hk] at this
      simpa using this
    · rw [Array.getD_eq_getD_getElem?, Array.getElem?_eq_none h'] at hk
      cases hk
/-- Each of the operations rs comes up next. -/
def AllReadyN (P : Program) (md : Region.Mode) (ops : Array Oper) (Q : Exit → Act → World → Prop) (S : World → Prop) (N fuel : Nat) (listed : Array Bool) (a : Act) (w : World) (rs : List Nat) : Prop :=
  ∀ i ∈ rs, wpOp P ops Q i (fun a' w' => (i = N ∨ S w') ∧ wpAnyN P md ops Q S N fuel (listed.setIfInBounds i true) a' w') a w
theorem AllReadyN.nil {fuel : Nat} {listed : Array Bool} {a : Act} {w : World} : AllReadyN P md ops Q S N fuel listed a w [] := fun _ h => by cases h
theorem consN_lit {fuel : Nat} {listed : Array Bool} {a : Act} {w : World} {i : Nat} {o : Oper} {rest : List Oper} {rs : List Nat} (ho : ops.toList.drop i = o :: rest)
    (h : ∀ K' : Act → World → Prop, Shut (∀ a w, (i = N ∨ S w) → ((i = N ∨ S w) → wpAnyN P md ops Q S N fuel (listed.setIfInBounds i true) a w) → K' a w) → if Region.wanted o (yielded ops a.tmps) = true then Oper.wp P o a w K' Q else K' (a.put o.dst undef) w)
    (hs : AllReadyN P md ops Q S N fuel listed a w rs) : AllReadyN P md ops Q S N fuel listed a w (i :: rs) := fun j hj => by
  rcases List.mem_cons.1 hj with rfl | hj
  · exact wpOp_step (at_lit ho) (fun K' hK => h K' (fun a w hS hW => hK a w ⟨hS, hW hS⟩))
  · exact hs j hj
theorem wpAnyN_ready {rs : List Nat} {fuel : Nat} {listed : Array Bool} {a : Act} {w : World} (hr : Region.ready md ops listed = rs) (hne : rs ≠ [])
    (h : AllReadyN P md ops Q S N fuel listed a w rs) : wpAnyN P md ops Q S N (fuel + 1) listed a w := ⟨fun h0 => absurd (hr ▸ h0) hne, hr ▸ h⟩
theorem wpAnyN_done {listed : Array Bool} {a : Act} {w : World} (hr : Region.ready md ops listed = []) (h : Q .normal a w) : ∀ fuel, wpAnyN P md ops Q S N fuel listed a w
  | 0 => ⟨hr, h⟩
  | _ + 1 => ⟨fun _ => h, by rw [hr]; simp⟩
theorem wp_region_N {id : Nat} {a : Act} {w : World} (N : Nat) (hm : P.follows .mixedOrders = true) (hS : S w.drew)
    (h : S w.drew → wpAnyN P .any ops Q S N ops.size (Array.replicate ops.size false) a w.drew) : (Code.region id ops true).wp P Q a w :=
  wp_region_any hm (wpAny_of_N _ _ _ _ (h hS))
end
end Go.Proofs.YtdibjgcokebfbaaGreat

namespace Go.Proofs.YtdibjgcokebfbaaGreat
open Go.RowKit
set_option linter.unusedSimpArgs false
set_option maxRecDepth 20000
theorem zcS : Tryz.zeroCells121 = (scells zeroO false).toArray := by kernel_rfl
/-- A State of the call's own. -/
def Began (w : World) (o : TS) (e : Ending) (w' : World) : Prop := ∃ g, e = .returned (.pointer (some ⟨g, 0, none⟩)) ∧ w.heap.size ≤ g ∧ Row w' g 121 (scells o false) ∧ Below w.heap.size w w'
section
variable {ops : Array Oper} {op : Oper} {a : Act} {w : World} {Q : Exit → Act → World → Prop} {K : Act → World → Prop} {E : Prop}
theorem sStA (x y : Operand) (hw : Region.wanted op (yielded ops a.tmps) = true) (ho : op.op = .store 23 x y) (b o : Nat) (c : Ad) (hx : a.eval x = .pointer (some ⟨b, o, none⟩)) (hy : a.eval y = (Value.agg (acells c).toArray)) (ht : w.there b o 16)
    (h : K (a.put op.dst undef) (w.setCells b o (acells c))) : if Region.wanted op (yielded ops a.tmps) = true then Oper.wp Tryz.prog op a w K Q else E := by
  rw [if_pos hw]
  exact wp_store_mid _ x y ho b o _ hx hy (by simpa [acells_len] using ht) (by rw [infoA]; simp [acells_len]) (all_oneCell_toArray (acells_one c)) (by simpa using h)
theorem sStB (x y : Operand) (hw : Region.wanted op (yielded ops a.tmps) = true) (ho : op.op = .store 4 x y) (b c : Nat) {U : TypeId} (cs : List Value) (n : Bool) (hx : a.eval x = .pointer (some ⟨b, c, none⟩)) (hy : a.eval y = .bool n) (hr : Row w b U cs) (hc : c < cs.length)
    (h : ∀ W, w.grownBy W (some b) → Row W b U (cs.set c (.bool n)) → K (a.put op.dst undef) W) : if Region.wanted op (yielded ops a.tmps) = true then Oper.wp Tryz.prog op a w K Q else E := by
  rw [if_pos hw]
  have c1 : w.cell? ⟨b, c, none⟩ = some cs[c] := by rw [hr.cell]; exact List.getElem?_eq_getElem hc
  have c2 := hr.frozen c
  have h1 := h _ (grownBy_setCell w b c (.bool n)) (hr.set c (.bool n))
  unfold Oper.wp execOp
  simp only [ho, hx, hy]
  go_simp
  exact h1
end
set_option maxHeartbeats 8000000 in
theorem rbegin6_any (src : Ad) (w : World) : Calls Tryz.prog 54 #[(Value.agg (acells src).toArray)] w (Began w (begO src)) := by
  have HF := rae_any src
  have HB : Hid (begO src = if famA src = 4 then { { zeroO with h4 := src } with k4 := true } else { { zeroO with h6 := src } with k6 := true }) := rfl
  have RA := (Row.new w 23 (acells src)).alloc (.cells (scells zeroO false).toArray 121)
  have RS := row_two w (.cells (acells src).toArray 23) 121 (scells zeroO false)
  have BB := bt (ba w (.cells (acells src).toArray 23)) (ba _ (.cells (scells zeroO false).toArray 121))
  generalize famA src = f at *
  generalize begO src = R at *
  by_cases hf : f = 4
  · rw [if_pos hf] at HF HB
    clear hf
    go_enter Tryz.func54, Tryz.ntmps54
    go_upto_region 2 with fail
    refine name_world (R := fun W => Code.wp _ _ _ _ W) (P := fun W => Row W w.heap.size 23 (acells src) ∧ Row W (w.heap.size + 1) 121 (scells zeroO false) ∧ Below w.heap.size w W) _ (by rw [zcS]; exact ⟨RA, RS, BB⟩) ?_
    clear RA RS BB
    rintro X ⟨RA, RS, BB⟩
    refine wp_region_noPanic ?_
    refine wp_region_N (S := fun W => Row W w.heap.size 23 (acells src) ∧ Row W (w.heap.size + 1) 121 (scells zeroO false) ∧ Below w.heap.size w W) 7 (by kernel_rfl) (⟨RA, RS, BB.drew⟩) (fun hHeld => ?_)
    refine takeN_lit (i := 0) (v := ?_) (F := #[false, true, true, true, false, false, false, false]) rfl (by kernel_rfl) (by kernel_rfl) (by kernel_rfl) (by kernel_rfl) (fun _ _ _ h => h) (Or.inl ⟨by rfl, ?_⟩) (by assumption) ?_
    rotate_left
    · (intro w hSw; (try dsimp only at hSw); go_simp <;> with_reducible rfl)
    try simp only [Act.put, List.setIfInBounds_toArray, List.set_cons_zero, List.set_cons_succ]
    refine takeN_lit (i := 1) (F := #[true, false, false, true, true, true, false, false]) rfl (by kernel_rfl) (by kernel_rfl) (by kernel_rfl) (by kernel_rfl) (fun _ _ _ h => h) (yA src (fun w h => h.1.range) (by rfl) rfl rfl) (by assumption) ?_
    try simp only [Act.put, List.setIfInBounds_toArray, List.set_cons_zero, List.set_cons_succ]
    refine takeN_lit (i := 3) (F := #[true, true, true, false, true, true, false, false]) rfl (by kernel_rfl) (by kernel_rfl) (by kernel_rfl) (by kernel_rfl) (fun _ _ _ h => h) (yA src (fun w h => h.1.range) (by rfl) rfl rfl) (by assumption) ?_
    try simp only [Act.put, List.setIfInBounds_toArray, List.set_cons_zero, List.set_cons_succ]
    refine takeN_lit (i := 4) (v := ?_) (F := #[true, true, true, true, false, false, false, false]) rfl (by kernel_rfl) (by kernel_rfl) (by kernel_rfl) (by kernel_rfl) (fun _ _ _ h => h) (Or.inl ⟨by rfl, ?_⟩) (by assumption) ?_
    rotate_left
    · (intro w hSw; (try dsimp only at hSw); go_simp <;> with_reducible rfl)
    try simp only [Act.put, List.setIfInBounds_toArray, List.set_cons_zero, List.set_cons_succ]
    refine takeN_lit (i := 5) (v := ?_) (F := #[true, true, true, true, true, false, false, false]) rfl (by kernel_rfl) (by kernel_rfl) (by kernel_rfl) (by kernel_rfl) (fun _ _ _ h => h) (Or.inl ⟨by rfl, ?_⟩) (by assumption) ?_
    rotate_left
    · (intro w hSw; (try dsimp only at hSw); go_simp <;> with_reducible rfl)
    try simp only [Act.put, List.setIfInBounds_toArray, List.set_cons_zero, List.set_cons_succ]
    refine wpAnyN_ready (rs := [2]) (by kernel_rfl) (by simp) ?_
    refine consN_lit rfl (fun K hK => ?_) ?_
    · go_simp
      refine (HF _).mono ?_
      rintro e w1 ⟨rfl, b1⟩
      refine hK.out _ _ (Or.inr ?_) (fun hHeld => ?_)
      · exact ⟨hHeld.1.below b1 hHeld.1.lt, hHeld.2.1.below b1 hHeld.2.1.lt, hHeld.2.2.trans (b1.mono hHeld.2.2.size)⟩
      replace hHeld := hHeld.resolve_left (by decide)
      clear hK K
      try simp only [Act.put, List.setIfInBounds_toArray, List.set_cons_zero, List.set_cons_succ]
      refine takeN_lit (i := 6) (v := ?_) (F := #[true, true, true, true, true, true, false, false]) rfl (by kernel_rfl) (by kernel_rfl) (by kernel_rfl) (by kernel_rfl) (fun _ _ _ h => h) (Or.inl ⟨by rfl, ?_⟩) (by assumption) ?_
      rotate_left
      · (intro w hSw; (try dsimp only at hSw); go_simp <;> with_reducible rfl)
      try simp only [Act.put, List.setIfInBounds_toArray, List.set_cons_zero, List.set_cons_succ]
      refine wpAnyN_ready (rs := [7]) (by kernel_rfl) (by simp) ?_
      refine consN_lit rfl (fun K hK => ?_) ?_
      · skip
        refine sStA (.tmp 12) (.tmp 9) (by rfl) rfl (w.heap.size + 1) 25 src rfl rfl (hHeld.2.1.thereMid (by rw [scells_len]; omega)) ?_
        have s7 := hHeld.2.1.t4 src
        have g7 := grownBy_setCells (w.heap.size + 1) (acells src) 25 w1
        have r7 := hHeld.1.grown g7 (by simp)
        have b7 : Below w.heap.size w (w1.setCells (w.heap.size + 1) 25 (acells src)) := hHeld.2.2.grown g7 hHeld.2.2.size (fun k hk => by cases hk; omega)
        refine hK.out _ _ (Or.inl rfl) (fun _ => ?_)
        clear hK K
        try simp only [Act.put, List.setIfInBounds_toArray, List.set_cons_zero, List.set_cons_succ]
        refine wpAnyN_done (by kernel_rfl) ?_ _
        refine NoPanic.normal ?_
        refine name_world (R := fun W => Exit.then _ _ _ _ W) (P := fun W => Row W w.heap.size 23 (acells src) ∧ Row W (w.heap.size + 1) 121 (scells { zeroO with h4 := src } false) ∧ Below w.heap.size w W) _ ⟨r7, s7, b7⟩ ?_
        clear s7 r7 b7 g7 hHeld RA RS BB
        rintro Y ⟨RA, RS, BB⟩
        go_upto_region 3 with fail
        refine wp_region_noPanic ?_
        refine wp_region_N (S := fun W => Row W w.heap.size 23 (acells src) ∧ Row W (w.heap.size + 1) 121 (scells { zeroO with h4 := src } false) ∧ Below w.heap.size w W) 6 (by kernel_rfl) (⟨RA, RS, BB.drew⟩) (fun hHeld => ?_)
        refine takeN_lit (i := 0) (v := ?_) (F := #[false, true, true, false, false, false, false]) rfl (by kernel_rfl) (by kernel_rfl) (by kernel_rfl) (by kernel_rfl) (fun _ _ _ h => h) (Or.inl ⟨by rfl, ?_⟩) (by assumption) ?_
        rotate_left
        · (intro w hSw; (try dsimp only at hSw); go_simp <;> with_reducible rfl)
        try simp only [Act.put, List.setIfInBounds_toArray, List.set_cons_zero, List.set_cons_succ]
        refine takeN_lit (i := 1) (F := #[true, false, false, true, true, false, false]) rfl (by kernel_rfl) (by kernel_rfl) (by kernel_rfl) (by kernel_rfl) (fun _ _ _ h => h) (yA src (fun w h => h.1.range) (by rfl) rfl rfl) (by assumption) ?_
        try simp only [Act.put, List.setIfInBounds_toArray, List.set_cons_zero, List.set_cons_succ]
        refine takeN_lit (i := 3) (v := ?_) (F := #[true, true, true, false, false, false, false]) rfl (by kernel_rfl) (by kernel_rfl) (by kernel_rfl) (by kernel_rfl) (fun _ _ _ h => h) (Or.inl ⟨by rfl, ?_⟩) (by assumption) ?_
        rotate_left
        · (intro w hSw; (try dsimp only at hSw); go_simp <;> with_reducible rfl)
        try simp only [Act.put, List.setIfInBounds_toArray, List.set_cons_zero, List.set_cons_succ]
        refine takeN_lit (i := 4) (v := ?_) (F := #[true, true, true, true, false, false, false]) rfl (by kernel_rfl) (by kernel_rfl) (by kernel_rfl) (by kernel_rfl) (fun _ _ _ h => h) (Or.inl ⟨by rfl, ?_⟩) (by assumption) ?_
        rotate_left
        · (intro w hSw; (try dsimp only at hSw); go_simp <;> with_reducible rfl)
        try simp only [Act.put, List.setIfInBounds_toArray, List.set_cons_zero, List.set_cons_succ]
        refine wpAnyN_ready (rs := [2]) (by kernel_rfl) (by simp) ?_
        refine consN_lit rfl (fun K hK => ?_) ?_
        · go_simp
          refine (HF _).mono ?_
          rintro e w2 ⟨rfl, b2⟩
          refine hK.out _ _ (Or.inr ?_) (fun hHeld => ?_)
          · exact ⟨hHeld.1.below b2 hHeld.1.lt, hHeld.2.1.below b2 hHeld.2.1.lt, hHeld.2.2.trans (b2.mono hHeld.2.2.size)⟩
          replace hHeld := hHeld.resolve_left (by decide)
          clear hK K
          try simp only [Act.put, List.setIfInBounds_toArray, List.set_cons_zero, List.set_cons_succ]
          refine takeN_lit (i := 5) (v := ?_) (F := #[true, true, true, true, true, false, false]) rfl (by kernel_rfl) (by kernel_rfl) (by kernel_rfl) (by kernel_rfl) (fun _ _ _ h => h) (Or.inl ⟨by rfl, ?_⟩) (by assumption) ?_
          rotate_left
          · (intro w hSw; (try dsimp only at hSw); go_simp <;> with_reducible rfl)
          try simp only [Act.put, List.setIfInBounds_toArray, List.set_cons_zero, List.set_cons_succ]
          refine wpAnyN_ready (rs := [6]) (by kernel_rfl) (by simp) ?_
          refine consN_lit rfl (fun K hK => ?_) ?_
          · skip
            refine sStB (.tmp 18) (.const (.bool true)) (by rfl) rfl (w.heap.size + 1) 58 _ true rfl rfl hHeld.2.1 (by rw [scells_len]; omega) ?_
            intro w3 g3 r3
            rw [ss58] at r3
            refine hK.out _ _ (Or.inl rfl) (fun _ => ?_)
            clear hK K
            try simp only [Act.put, List.setIfInBounds_toArray, List.set_cons_zero, List.set_cons_succ]
            refine wpAnyN_done (by kernel_rfl) ?_ _
            refine NoPanic.normal ?_
            have b3 := hHeld.2.2.grown g3 hHeld.2.2.size (fun k hk => by cases hk; omega)
            go_wp2
            go_ret
            exact ⟨_, rfl, by omega, by rw [HB.out]; exact r3, b3⟩
          exact AllReadyN.nil
        exact AllReadyN.nil
      exact AllReadyN.nil
    exact AllReadyN.nil
  · rw [if_neg hf] at HF HB
    clear hf
    go_enter Tryz.func54, Tryz.ntmps54
    go_upto_region 2 with fail
    refine name_world (R := fun W => Code.wp _ _ _ _ W) (P := fun W => Row W w.heap.size 23 (acells src) ∧ Row W (w.heap.size + 1) 121 (scells zeroO false) ∧ Below w.heap.size w W) _ (by rw [zcS]; exact ⟨RA, RS, BB⟩) ?_
    clear RA RS BB
    rintro X ⟨RA, RS, BB⟩
    refine wp_region_noPanic ?_
    refine wp_region_N (S := fun W => Row W w.heap.size 23 (acells src) ∧ Row W (w.heap.size + 1) 121 (scells zeroO false) ∧ Below w.heap.size w W) 7 (by kernel_rfl) (⟨RA, RS, BB.drew⟩) (fun hHeld => ?_)
    refine takeN_lit (i := 0) (v := ?_) (F := #[false, true, true, true, false, false, false, false]) rfl (by kernel_rfl) (by kernel_rfl) (by kernel_rfl) (by kernel_rfl) (fun _ _ _ h => h) (Or.inl ⟨by rfl, ?_⟩) (by assumption) ?_
    rotate_left
    · (intro w hSw; (try dsimp only at hSw); go_simp <;> with_reducible rfl)
    try simp only [Act.put, List.setIfInBounds_toArray, List.set_cons_zero, List.set_cons_succ]
    refine takeN_lit (i := 1) (F := #[true, false, false, true, true, true, false, false]) rfl (by kernel_rfl) (by kernel_rfl) (by kernel_rfl) (by kernel_rfl) (fun _ _ _ h => h) (yA src (fun w h => h.1.range) (by rfl) rfl rfl) (by assumption) ?_
    try simp only [Act.put, List.setIfInBounds_toArray, List.set_cons_zero, List.set_cons_succ]
    refine takeN_lit (i := 3) (F := #[true, true, true, false, true, true, false, false]) rfl (by kernel_rfl) (by kernel_rfl) (by kernel_rfl) (by kernel_rfl) (fun _ _ _ h => h) (yA src (fun w h => h.1.range) (by rfl) rfl rfl) (by assumption) ?_
    try simp only [Act.put, List.setIfInBounds_toArray, List.set_cons_zero, List.set_cons_succ]
    refine takeN_lit (i := 4) (v := ?_) (F := #[true, true, true, true, false, false, false, false]) rfl (by kernel_rfl) (by kernel_rfl) (by kernel_rfl) (by kernel_rfl) (fun _ _ _ h => h) (Or.inl ⟨by rfl, ?_⟩) (by assumption) ?_
    rotate_left
    · (intro w hSw; (try dsimp only at hSw); go_simp <;> with_reducible rfl)
    try simp only [Act.put, List.setIfInBounds_toArray, List.set_cons_zero, List.set_cons_succ]
    refine takeN_lit (i := 5) (v := ?_) (F := #[true, true, true, true, true, false, false, false]) rfl (by kernel_rfl) (by kernel_rfl) (by kernel_rfl) (by kernel_rfl) (fun _ _ _ h => h) (Or.inl ⟨by rfl, ?_⟩) (by assumption) ?_
    rotate_left
    · (intro w hSw; (try dsimp only at hSw); go_simp <;> with_reducible rfl)
    try simp only [Act.put, List.setIfInBounds_toArray, List.set_cons_zero, List.set_cons_succ]
    refine wpAnyN_ready (rs := [2]) (by kernel_rfl) (by simp) ?_
    refine consN_lit rfl (fun K hK => ?_) ?_
    · go_simp
      refine (HF _).mono ?_
      rintro e w1 ⟨rfl, b1⟩
      refine hK.out _ _ (Or.inr ?_) (fun hHeld => ?_)
      · exact ⟨hHeld.1.below b1 hHeld.1.lt, hHeld.2.1.below b1 hHeld.2.1.lt, hHeld.2.2.trans (b1.mono hHeld.2.2.size)⟩
      replace hHeld := hHeld.resolve_left (by decide)
      clear hK K
      try simp only [Act.put, List.setIfInBounds_toArray, List.set_cons_zero, List.set_cons_succ]
      refine takeN_lit (i := 6) (v := ?_) (F := #[true, true, true, true, true, true, false, false]) rfl (by kernel_rfl) (by kernel_rfl) (by kernel_rfl) (by kernel_rfl) (fun _ _ _ h => h) (Or.inl ⟨by rfl, ?_⟩) (by assumption) ?_
      rotate_left
      · (intro w hSw; (try dsimp only at hSw); go_simp <;> with_reducible rfl)
      try simp only [Act.put, List.setIfInBounds_toArray, List.set_cons_zero, List.set_cons_succ]
      refine wpAnyN_ready (rs := [7]) (by kernel_rfl) (by simp) ?_
      refine consN_lit rfl (fun K hK => ?_) ?_
      · skip
        refine sStA (.tmp 12) (.tmp 9) (by rfl) rfl (w.heap.size + 1) 41 src rfl rfl (hHeld.2.1.thereMid (by rw [scells_len]; omega)) ?_
        have s7 := hHeld.2.1.t6 src
        have g7 := grownBy_setCells (w.heap.size + 1) (acells src) 41 w1
        have r7 := hHeld.1.grown g7 (by simp)
        have b7 : Below w.heap.size w (w1.setCells (w.heap.size + 1) 41 (acells src)) := hHeld.2.2.grown g7 hHeld.2.2.size (fun k hk => by cases hk; omega)
        refine hK.out _ _ (Or.inl rfl) (fun _ => ?_)
        clear hK K
        try simp only [Act.put, List.setIfInBounds_toArray, List.set_cons_zero, List.set_cons_succ]
        refine wpAnyN_done (by kernel_rfl) ?_ _
        refine NoPanic.normal ?_
        refine name_world (R := fun W => Exit.then _ _ _ _ W) (P := fun W => Row W w.heap.size 23 (acells src) ∧ Row W (w.heap.size + 1) 121 (scells { zeroO with h6 := src } false) ∧ Below w.heap.size w W) _ ⟨r7, s7, b7⟩ ?_
        clear s7 r7 b7 g7 hHeld RA RS BB
        rintro Y ⟨RA, RS, BB⟩
        go_upto_region 3 with fail
        refine wp_region_noPanic ?_
        refine wp_region_N (S := fun W => Row W w.heap.size 23 (acells src) ∧ Row W (w.heap.size + 1) 121 (scells { zeroO with h6 := src } false) ∧ Below w.heap.size w W) 6 (by kernel_rfl) (⟨RA, RS, BB.drew⟩) (fun hHeld => ?_)
        refine takeN_lit (i := 0) (v := ?_) (F := #[false, true, true, false, false, false, false]) rfl (by kernel_rfl) (by kernel_rfl) (by kernel_rfl) (by kernel_rfl) (fun _ _ _ h => h) (Or.inl ⟨by rfl, ?_⟩) (by assumption) ?_
        rotate_left
        · (intro w hSw; (try dsimp only at hSw); go_simp <;> with_reducible rfl)
        try simp only [Act.put, List.setIfInBounds_toArray, List.set_cons_zero, List.set_cons_succ]
        refine takeN_lit (i := 1) (F := #[true, false, false, true, true, false, false]) rfl (by kernel_rfl) (by kernel_rfl) (by kernel_rfl) (by kernel_rfl) (fun _ _ _ h => h) (yA src (fun w h => h.1.range) (by rfl) rfl rfl) (by assumption) ?_
        try simp only [Act.put, List.setIfInBounds_toArray, List.set_cons_zero, List.set_cons_succ]
        refine takeN_lit (i := 3) (v := ?_) (F := #[true, true, true, false, false, false, false]) rfl (by kernel_rfl) (by kernel_rfl) (by kernel_rfl) (by kernel_rfl) (fun _ _ _ h => h) (Or.inl ⟨by rfl, ?_⟩) (by assumption) ?_
        rotate_left
        · (intro w hSw; (try dsimp only at hSw); go_simp <;> with_reducible rfl)
        try simp only [Act.put, List.setIfInBounds_toArray, List.set_cons_zero, List.set_cons_succ]
        refine takeN_lit (i := 4) (v := ?_) (F := #[true, true, true, true, false, false, false]) rfl (by kernel_rfl) (by kernel_rfl) (by kernel_rfl) (by kernel_rfl) (fun _ _ _ h => h) (Or.inl ⟨by rfl, ?_⟩) (by assumption) ?_
        rotate_left
        · (intro w hSw; (try dsimp only at hSw); go_simp <;> with_reducible rfl)
        try simp only [Act.put, List.setIfInBounds_toArray, List.set_cons_zero, List.set_cons_succ]
        refine wpAnyN_ready (rs := [2]) (by kernel_rfl) (by simp) ?_
        refine consN_lit rfl (fun K hK => ?_) ?_
        · go_simp
          refine (HF _).mono ?_
          rintro e w2 ⟨rfl, b2⟩
          refine hK.out _ _ (Or.inr ?_) (fun hHeld => ?_)
          · exact ⟨hHeld.1.below b2 hHeld.1.lt, hHeld.2.1.below b2 hHeld.2.1.lt, hHeld.2.2.trans (b2.mono hHeld.2.2.size)⟩
          replace hHeld := hHeld.resolve_left (by decide)
          clear hK K
          try simp only [Act.put, List.setIfInBounds_toArray, List.set_cons_zero, List.set_cons_succ]
          refine takeN_lit (i := 5) (v := ?_) (F := #[true, true, true, true, true, false, false]) rfl (by kernel_rfl) (by kernel_rfl) (by kernel_rfl) (by kernel_rfl) (fun _ _ _ h => h) (Or.inl ⟨by rfl, ?_⟩) (by assumption) ?_
          rotate_left
          · (intro w hSw; (try dsimp only at hSw); go_simp <;> with_reducible rfl)
          try simp only [Act.put, List.setIfInBounds_toArray, List.set_cons_zero, List.set_cons_succ]
          refine wpAnyN_ready (rs := [6]) (by kernel_rfl) (by simp) ?_
          refine consN_lit rfl (fun K hK => ?_) ?_
          · skip
            refine sStB (.tmp 18) (.const (.bool true)) (by rfl) rfl (w.heap.size + 1) 59 _ true rfl rfl hHeld.2.1 (by rw [scells_len]; omega) ?_
            intro w3 g3 r3
            rw [ss59] at r3
            refine hK.out _ _ (Or.inl rfl) (fun _ => ?_)
            clear hK K
            try simp only [Act.put, List.setIfInBounds_toArray, List.set_cons_zero, List.set_cons_succ]
            refine wpAnyN_done (by kernel_rfl) ?_ _
            refine NoPanic.normal ?_
            have b3 := hHeld.2.2.grown g3 hHeld.2.2.size (fun k hk => by cases hk; omega)
            go_wp2
            go_ret
            exact ⟨_, rfl, by omega, by rw [HB.out]; exact r3, b3⟩
          exact AllReadyN.nil
        exact AllReadyN.nil
      exact AllReadyN.nil
    exact AllReadyN.nil
/-- A packet under way, as the document keeps it. -/
structure Opn (W : World) (p : Nat) (o : TS) (k : Bool) (a : Option Addr) (n c : Nat) (l : List UInt8) (g : Nat) : Prop where
  row : Row W p 82 [.slice a n c, .pointer (some ⟨g, 0, none⟩)]
  src : Src W a n c (bcells l)
  st : Row W g 121 (scells o k)
  no : k = false → o.r = zeroI
theorem begO_r (src : Ad) : (begO src).r = zeroI := by unfold begO; split <;> rfl
set_option maxHeartbeats 4000000 in
theorem rbegin7_any (src : Ad) (w : World) : Calls Tryz.prog 25 #[(Value.agg (acells src).toArray)] w fun e w' => ∃ p g, e = .returned (.pointer (some ⟨p, 0, none⟩)) ∧ w.heap.size ≤ p ∧ w.heap.size ≤ g ∧ Opn w' p (begO src) false none 0 0 [] g ∧ Below w.heap.size w w' := by
  have RA := Row.new w 23 (acells src)
  have BA := ba w (.cells (acells src).toArray 23)
  have HB := rbegin6_any src
  go_enter Tryz.func25, Tryz.ntmps25
  go_wp2_with (first
    | (go_at_call 54; refine (HB _).mono ?_; rintro e w1 ⟨g, rfl, hg, r1, b1⟩)
    | (refine ldA (.tmp 1) (by rfl) rfl w.heap.size 0 src rfl RA.range ?_))
  go_ret
  exact ⟨_, g, rfl, (bt BA b1).size, by simp at hg; omega, ⟨Row.new w1 _ [.slice none 0 0, .pointer (some ⟨g, 0, none⟩)], Src.nil _, r1.alloc _, fun _ => begO_r src⟩, bt (bt BA b1) (ba _ _)⟩
end Go.Proofs.YtdibjgcokebfbaaGreat

namespace Go.Proofs.YtdibjgcokebfbaaGreat
open Go.RowKit
set_option linter.unusedSimpArgs false
set_option maxRecDepth 20000
theorem ret2C {P : Program} {fn : Func} {q p : Tmp} {ty : TypeId} {u v : Value} {w : World} (h : fn.results = #[.tmp q, .cell p ty]) (tmps : Array Value) (b o : Nat) (hq : tmps.getD q undef = u) (hp : tmps.getD p undef = .pointer (some ⟨b, o, none⟩))
    (hl : (loadVar ty ⟨b, o, none⟩).run P w = .ok v w) : (results fn tmps).run P w = .ok (.tuple #[u, v]) w := by
  simp only [results, h]
  rw [Array.getD_eq_getD_getElem?] at hp hq
  simp [Sem.run_bind, hp, hq, asAddr, hl, Result.andThen]
def Fronted (w : World) (l : List UInt8) (o : TS) (k : Bool) (e : Ending) (w' : World) : Prop := ∃ a n c, e = .returned (.tuple #[.slice a n c, .agg (scells o k).toArray]) ∧ w'.ownsRow w.heap.size 5 1 (.slice a n c) n (bcells l) ∧ Below w.heap.size w w'
set_option maxHeartbeats 8000000 in
theorem rfront_no (p : Nat) (o : TS) (k : Bool) (a : Option Addr) (n c : Nat) (l : List UInt8) (g : Nat) (t : Tl) (w : World) (hO : Opn w p o k a n c l g) (hf : TFit t.key) (hw : wayB t.key = false) : Calls Tryz.prog 55 #[.pointer (some ⟨p, 0, none⟩), .agg (tcells t).toArray] w (Fronted w [] o k) := by
  have RT := Row.new w 45 (tcells t)
  have hp := hO.row.lt
  have hg := hO.st.lt
  have BT := ba w (.cells (tcells t).toArray 45)
  have HD : Hid (∀ W, Below w.heap.size w W → W.cell? ⟨p, 1, none⟩ = some (.pointer (some ⟨g, 0, none⟩)) ∧ Row W g 121 (scells o k)) := fun W h => ⟨((hO.row.below h hp).cell 1).trans rfl, hO.st.below h hg⟩
  have T0 : (tcells t)[0]? = some (.int .u8 (t.ty : Int)) := rfl
  have T5 : (tcells t)[5]? = some (.int .u16 (t.met : Int)) := rfl
  have hmet : t.met < 65536 := hf.met
  have hcase : (((t.ty : Int) != 8) = true) ∨ (((t.ty : Int) != 8) = false ∧ ((t.met : Int) == 65535) = true) := by
    have : wayB t.key = (decide (t.ty = 8) && decide (t.met < 65535)) := rfl
    rw [this] at hw
    by_cases h8 : t.ty = 8
    · right
      rw [decide_eq_true h8, Bool.true_and, decide_eq_false_iff_not] at hw
      exact ⟨by rw [h8]; rfl, by simp; omega⟩
    · left; simp; omega
  clear hO hw hf hmet
  generalize (t.ty : Int) = y at *
  generalize (t.met : Int) = m at *
  have st0 := True.intro
  rcases hcase with h8 | ⟨h8, h9⟩
  all_goals
    go_enter Tryz.func55, Tryz.ntmps55
    go_upto_region 3 with (first
      | (have kk := st2; refine stS (.tmp 6) (.tmp 18) (by rfl) rfl g6 o zeroO k false rfl rfl r6 ?_; intro W7 g7 r7; clear kk st2; replace r5 := r5.grown g7 (by simp; omega); replace RT := RT.grown g7 (by simp; omega); replace BT := BT.grown g7 BT.size (fun q hq => by cases hq; omega); have c0 := (RT.cell 0).trans T0; have c5 := (RT.cell 5).trans T5)
      | (have kk := st1; refine ldS (.tmp 17) (by rfl) rfl g o k rfl (HD.out _ BT).2 ?_)
      | (have kk := st1; refine alG infoSz (by rfl) rfl ?_; intro g6 W6 l6 l6' b6 r6; clear kk st1; have st2 := True.intro; replace r5 := r5.below b6 r5.lt; replace RT := RT.below b6 RT.lt; have hq6 : w.heap.size ≤ g6 := Nat.le_trans BT.size l6; have hq65 : g5 < g6 := (by omega); have hq60 : w.heap.size < g6 := (by omega); replace BT := bt BT b6)
      | (have kk := st0; refine alG infoSz (by rfl) rfl ?_; intro g5 W5 l5 l5' b5 r5; clear kk st0; have st1 := True.intro; replace RT := RT.below b5 RT.lt; have hq5 : w.heap.size < g5 := (by simp at l5; omega); replace BT := bt BT b5; have cP := (HD.out _ BT).1))
    refine name_world (R := fun W => Code.wp _ _ _ _ W) (P := fun W => Row W g6 121 (scells o k) ∧ Row W g5 121 (scells zeroO false) ∧ Below w.heap.size w W) _ ⟨r7, r5, BT⟩ ?_
    rintro X ⟨x6, x5, bX⟩
    refine wp_region_noPanic ?_
    refine wp_region_N (S := fun W => Row W g6 121 (scells o k) ∧ Row W g5 121 (scells zeroO false) ∧ Below w.heap.size w W) 2 (by kernel_rfl) (⟨x6, x5, bX.drew⟩) (fun hHeld => ?_)
    refine takeN_lit (i := 0) (F := #[false, true, false]) rfl (by kernel_rfl) (by kernel_rfl) (by kernel_rfl) (by kernel_rfl) (fun _ _ _ h => h) (yS o k (fun w h => h.1) (by rfl) rfl rfl) (by assumption) ?_
    try simp only [Act.put, List.setIfInBounds_toArray, List.set_cons_zero, List.set_cons_succ]
    refine takeN_lit (i := 1) (v := ?_) (F := #[true, false, false]) rfl (by kernel_rfl) (by kernel_rfl) (by kernel_rfl) (by kernel_rfl) (fun _ _ _ h => h) (Or.inl ⟨by rfl, ?_⟩) (by assumption) ?_
    rotate_left
    · (intro w hSw; (try dsimp only at hSw); go_simp <;> with_reducible rfl)
    try simp only [Act.put, List.setIfInBounds_toArray, List.set_cons_zero, List.set_cons_succ]
    refine wpAnyN_ready (rs := [2]) (by kernel_rfl) (by simp) ?_
    refine consN_lit rfl (fun K hK => ?_) ?_
    · skip
      refine sStS (.tmp 5) (.tmp 27) (by rfl) rfl g5 o zeroO k false rfl rfl hHeld.2.1 ?_
      intro W9 g9 r9
      refine hK.out _ _ (Or.inl rfl) (fun _ => ?_)
      clear hK K
      try simp only [Act.put, List.setIfInBounds_toArray, List.set_cons_zero, List.set_cons_succ]
      refine wpAnyN_done (by kernel_rfl) ?_ _
      refine NoPanic.normal ?_
      have b9 := hHeld.2.2.grown g9 hHeld.2.2.size (fun q hq => by cases hq; omega)
      go_wp2
      exact bodyPost_ret (ret2C rfl _ _ 0 rfl rfl (lvS r9)) rfl ⟨none, 0, 0, rfl, World.ownsRow_nil _ _ _ _, b9⟩
    exact AllReadyN.nil
end Go.Proofs.YtdibjgcokebfbaaGreat
