/-
  Slices of Tlvs; the document's Sames answers true of two lists that tell the same.
-/
import Derived.Test.YtaleclmccmeglaaSm6
import Derived.Test.YtaleclmccmeglaaPrs
namespace Go.Proofs.Ytaleclmccmeglaa
open Go.RowKit
set_option linter.unusedSimpArgs false
set_option maxRecDepth 20000

theorem tcs_len (ts : List Tl) : (tcs ts).length = ts.length * 68 := by
  induction ts with
  | nil => rfl
  | cons p ps ih => simp only [tcs, List.flatMap_cons, List.length_append, List.length_cons] at *; rw [ih, tcells_len]; omega
theorem tcs_get (ts : List Tl) (j : Nat) (t : Tl) (h : ts[j]? = some t) (k : Nat) (hk : k < 68) : (tcs ts)[j * 68 + k]? = (tcells t)[k]? := by
  induction ts generalizing j with
  | nil => simp at h
  | cons q ps ih =>
    have e : tcs (q :: ps) = tcells q ++ tcs ps := by simp [tcs]
    rw [e]
    cases j with
    | zero =>
      simp at h
      subst h
      rw [List.getElem?_append_left (by rw [tcells_len]; omega)]
      simp
    | succ j =>
      rw [List.getElem?_append_right (by rw [tcells_len]; omega)]
      have e2 : (j + 1) * 68 + k - (tcells q).length = j * 68 + k := by rw [tcells_len]; omega
      rw [e2]
      exact ih j (by simpa using h)
/-- A slice of Tlvs. -/
structure TlW (w : World) (a : Option Addr) (n : Nat) (ts : List Tl) : Prop where
  len : ts.length = n
  place : ts ≠ [] → ∃ g o, a = some ⟨g, o, none⟩ ∧ g < w.heap.size ∧ ∀ j t, ts[j]? = some t → w.rangeAt g (o + j * 68) (tcells t)
  stms : ∀ t ∈ ts, TSrc w t
theorem TlW.below {w w' : World} {a : Option Addr} {n : Nat} {ts : List Tl} (h : TlW w a n ts) (hb : Below w.heap.size w w') : TlW w' a n ts :=
  ⟨h.len, fun hne => by
    obtain ⟨g, o, e, hg, hr⟩ := h.place hne
    exact ⟨g, o, e, Nat.lt_of_lt_of_le hg hb.size, fun j p hp i v hv => (hb.cell (p := ⟨g, o + j * 68 + i, none⟩) hg).trans (hr j p hp i v hv)⟩, fun p hp => Src.below (h.stms p hp) hb (Src.lt (h.stms p hp))⟩
theorem own_src77 {w : World} {B : Nat} {a : Option Addr} {n c : Nat} {xs : List Value} (h : w.ownsRow B 77 1 (.slice a n c) n xs) : Src w a n c xs := by
  rcases h.2 with ⟨h1, h2⟩ | ⟨g, cap, cur, h1, hb, hh, hr⟩
  · cases h1
    have : xs = [] := List.eq_nil_of_length_eq_zero (by simpa using h.1)
    subst this
    exact Src.nil w
  · cases h1
    refine ⟨by simpa using h.1, (fun h => by cases h), fun ad had j u hu => ?_⟩
    cases had
    exact h.cells rfl j u hu
theorem Tls.tlw {B : Nat} {w : World} {a : Option Addr} {c : Nat} {ts : List Tl} (h : Tls B w a c ts) : TlW w a ts.length ts := by
  refine ⟨rfl, fun hne => ?_, fun t ht => own_src77 (h.stms t ht)⟩
  rcases h.own.2 with ⟨_, h2⟩ | ⟨g, cap, cur, hv, _, hh, _, _, _, _⟩
  · exact absurd (List.eq_nil_of_length_eq_zero h2) hne
  · cases hv
    refine ⟨g, 0, rfl, lt_of_block hh, fun j p hp k u hu => ?_⟩
    have hk : k < 68 := by have := (List.getElem?_eq_some_iff.1 hu).1; rwa [tcells_len] at this
    have := h.own.cells rfl (j * 68 + k) u (by rw [tcs_get ts j p hp k hk]; exact hu)
    rw [Addr.add_mid] at this
    rw [Nat.add_assoc]
    exact this
theorem TlW.at {w : World} {a : Option Addr} {n : Nat} {ts : List Tl} (h : TlW w a n ts) {j : Nat} (hj : j < ts.length) : ∃ g o, a = some ⟨g, o, none⟩ ∧ g < w.heap.size ∧ w.rangeAt g (o + j * 68) (tcells ts[j]) := by
  obtain ⟨g, o, e, hl, hr⟩ := h.place (by rintro rfl; simp at hj)
  exact ⟨g, o, e, hl, hr j ts[j] (List.getElem?_eq_getElem hj)⟩
theorem TlW.take {w : World} {a : Option Addr} {n : Nat} {ts : List Tl} (h : TlW w a n ts) (k : Nat) (hk : k ≤ n) : TlW w a k (ts.take k) := by
  refine ⟨by rw [List.length_take, h.len]; omega, fun hne => ?_, fun t ht => h.stms t (List.mem_of_mem_take ht)⟩
  obtain ⟨g, o, e, hl, hr⟩ := h.place (by rintro rfl; simp at hne)
  exact ⟨g, o, e, hl, fun j t ht => hr j t (take_get ht)⟩
section
variable {ops : Array Oper} {op : Oper} {a : Act} {S : World → Prop}
theorem yTm {b o : Nat} {x : Operand} (t : Tl) (hS : ∀ w, S w → w.rangeAt b o (tcells t)) (hw : Region.wanted op (yielded ops a.tmps) = true) (ho : op.op = .load 44 x) (hx : a.eval x = .pointer (some ⟨b, o, none⟩)) : YieldsIf Try.prog ops S op (.agg (tcells t).toArray) a :=
  yieldsIf_load_mid hw _ x ho b o hx (tcells t) _ hS Try.underlying44 rfl (by rw [infoTs, tcells_len])
end
theorem range_below {w w' : World} {b o : Nat} {cs : List Value} (h : w.rangeAt b o cs) (hl : b < w.heap.size) (hb : Below w.heap.size w w') : w'.rangeAt b o cs := rangeAt_below h hb hl

theorem sames_true (a1 a2 : Option Addr) (n c1 c2 : Nat) (ts us : List Tl) (w : World) (h1 : TlW w a1 n ts) (h2 : TlW w a2 n us) (hk : ts.map Tl.key = us.map Tl.key) (hn : n ≤ 100000) (hs : ∀ t ∈ ts, t.st.length ≤ 100000) :
    Calls Try.prog 11 #[.slice a1 n c1, .slice a2 n c2] w fun e w' => e = .returned (.bool true) ∧ Below w.heap.size w w' := by
  have HN : Hid (ts.length = n ∧ us.length = n) := ⟨h1.len, h2.len⟩
  have HK : Hid (ts.map Tl.key = us.map Tl.key) := hk
  clear hk
  go_enter Try.func11, Try.ntmps11
  go_wp2
  go_loopw [5] (fun i wr => ∃ j : Nat, j ≤ n ∧ i = .int .i64 j ∧ Below w.heap.size w wr) (fun i _ => n - (intOf i).toNat)
  case atStart => exact ⟨0, Nat.zero_le _, rfl, Below.refl _ _⟩
  case round =>
    obtain ⟨j, hj, rfl, hbl⟩ := hrel
    by_cases hlt : j < n
    · have j1 : j < ts.length := by have := HN.out.1; omega
      have j2 : j < us.length := by have := HN.out.2; omega
      have w1 := h1.below hbl
      have w2 := h2.below hbl
      obtain ⟨g1, o1, rfl, l1, r1⟩ := w1.at j1
      obtain ⟨g2, o2, rfl, l2, r2⟩ := w2.at j2
      have hkk : ts[j].key = us[j].key := by
        have e := congrArg (fun l => l[j]?) HK.out
        simpa [j1, j2] using e
      have t1 := w1.stms ts[j] (List.getElem_mem j1)
      have t2 := w2.stms us[j] (List.getElem_mem j2)
      have hst := hs ts[j] (List.getElem_mem j1)
      have hsn : ts[j].sn ≤ 100000 := by have := TSrc.len t1; omega
      have HS : Hid (∀ W, Below wr.heap.size wr W → Calls Try.prog 16 #[.agg (tcells ts[j]).toArray, .agg (tcells us[j]).toArray] W fun e w' => e = .returned (.bool true) ∧ Below W.heap.size W w') := fun W hW => rsame_true ts[j] us[j] W (Src.below t1 hW (Src.lt t1)) (Src.below t2 hW (Src.lt t2)) hkk hsn
      generalize ts[j] = t at *
      generalize us[j] = u at *
      clear t1 t2 hst hsn hkk
      go_wp2
      have r1d := range_below r1 l1 (bd wr)
      have r2d := range_below r2 l2 (bd wr)
      refine wp_region_noPanic ?_
      refine wp_region_held_drew (S := fun W => W.rangeAt g1 (o1 + j * 68) (tcells t) ∧ W.rangeAt g2 (o2 + j * 68) (tcells u)) (by kernel_rfl) (⟨r1d, r2d⟩) (fun hHeld => ?_)
      refine take_lit (i := 0) (v := ?_) rfl (by kernel_rfl) (by kernel_rfl) (by kernel_rfl) (fun _ _ _ h => h) (Or.inl ⟨by rfl, ?_⟩) (by assumption) ?_
      rotate_left
      · (intro w hSw; (try dsimp only at hSw); go_simp <;> with_reducible rfl)
      try simp only [Act.put, List.setIfInBounds_toArray, List.set_cons_zero, List.set_cons_succ]
      refine take_lit (i := 1) (v := ?_) rfl (by kernel_rfl) (by kernel_rfl) (by kernel_rfl) (fun _ _ _ h => h) (Or.inl ⟨by rfl, ?_⟩) (by assumption) ?_
      rotate_left
      · (intro w hSw; (try dsimp only at hSw); go_simp <;> with_reducible rfl)
      try simp only [Act.put, List.setIfInBounds_toArray, List.set_cons_zero, List.set_cons_succ]
      refine take_lit (i := 2) (v := ?_) rfl (by kernel_rfl) (by kernel_rfl) (by kernel_rfl) (fun _ _ _ h => h) (Or.inl ⟨by rfl, ?_⟩) (by assumption) ?_
      rotate_left
      · (intro w hSw; (try dsimp only at hSw); go_simp <;> with_reducible rfl)
      try simp only [Act.put, List.setIfInBounds_toArray, List.set_cons_zero, List.set_cons_succ]
      refine take_lit (i := 3) rfl (by kernel_rfl) (by kernel_rfl) (by kernel_rfl) (fun _ _ _ h => h) (yTm t (fun W hW => hW.1) (by rfl) rfl rfl) (by assumption) ?_
      try simp only [Act.put, List.setIfInBounds_toArray, List.set_cons_zero, List.set_cons_succ]
      refine take_lit (i := 4) (v := ?_) rfl (by kernel_rfl) (by kernel_rfl) (by kernel_rfl) (fun _ _ _ h => h) (Or.inl ⟨by rfl, ?_⟩) (by assumption) ?_
      rotate_left
      · (intro w hSw; (try dsimp only at hSw); go_simp <;> with_reducible rfl)
      try simp only [Act.put, List.setIfInBounds_toArray, List.set_cons_zero, List.set_cons_succ]
      refine take_lit (i := 5) (v := ?_) rfl (by kernel_rfl) (by kernel_rfl) (by kernel_rfl) (fun _ _ _ h => h) (Or.inl ⟨by rfl, ?_⟩) (by assumption) ?_
      rotate_left
      · (intro w hSw; (try dsimp only at hSw); go_simp <;> with_reducible rfl)
      try simp only [Act.put, List.setIfInBounds_toArray, List.set_cons_zero, List.set_cons_succ]
      refine take_lit (i := 6) (v := ?_) rfl (by kernel_rfl) (by kernel_rfl) (by kernel_rfl) (fun _ _ _ h => h) (Or.inl ⟨by rfl, ?_⟩) (by assumption) ?_
      rotate_left
      · (intro w hSw; (try dsimp only at hSw); go_simp <;> with_reducible rfl)
      try simp only [Act.put, List.setIfInBounds_toArray, List.set_cons_zero, List.set_cons_succ]
      refine take_lit (i := 7) rfl (by kernel_rfl) (by kernel_rfl) (by kernel_rfl) (fun _ _ _ h => h) (yTm u (fun W hW => hW.2) (by rfl) rfl rfl) (by assumption) ?_
      try simp only [Act.put, List.setIfInBounds_toArray, List.set_cons_zero, List.set_cons_succ]
      refine wpAnyH_ready (rs := [8]) (by kernel_rfl) (by simp) ?_
      refine cons_lit rfl (fun K hK => ?_) ?_
      · go_simp
        refine (HS.out _ (bd wr)).mono ?_
        rintro e w5 ⟨rfl, hb5⟩
        have bW := hbl.trans ((bt (bd wr) hb5).mono hbl.size)
        refine hK.out _ _ ?_ (fun hHeld => ?_)
        · exact ⟨range_below r1d l1 hb5, range_below r2d l2 hb5⟩
        clear hK K
        try simp only [Act.put, List.setIfInBounds_toArray, List.set_cons_zero, List.set_cons_succ]
        refine take_lit (i := 9) (v := ?_) rfl (by kernel_rfl) (by kernel_rfl) (by kernel_rfl) (fun _ _ _ h => h) (Or.inl ⟨by rfl, ?_⟩) (by assumption) ?_
        rotate_left
        · (intro w hSw; (try dsimp only at hSw); go_simp <;> with_reducible rfl)
        try simp only [Act.put, List.setIfInBounds_toArray, List.set_cons_zero, List.set_cons_succ]
        refine wpAnyH_done (by kernel_rfl) ?_ _
        refine NoPanic.normal ?_
        go_wp2
        go_roundw
        case rel => exact ⟨j + 1, by omega, by go_num, bW⟩
        case measure => simp [intOf]; omega
      exact AllReadyH.nil
    · go_wp2
      go_ret
      exact ⟨rfl, hbl⟩
end Go.Proofs.Ytaleclmccmeglaa
