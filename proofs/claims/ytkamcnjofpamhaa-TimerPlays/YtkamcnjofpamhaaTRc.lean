/-
  The document's queue: Cancel.
-/
import Derived.Test.YtkamcnjofpamhaaTRq
import Derived.Test.YtkamcnjofpamhaaTLast
import Derived.Laws.AppendOwnNone
namespace Go.Proofs.Ytkamcnjofpamhaa
open Go.RowKit
set_option linter.unusedSimpArgs false
/-- What a slice that is read holds. -/
structure SrcD (W : World) (ad : Option Addr) (m : Nat) (D : List (ByteArray × Int)) : Prop where
  len : D.length = m
  bare : ad = none → D = []
  cell : ∀ p, ad = some p → ∀ j u, (dcs D)[j]? = some u → W.cell? (p.add j) = some u
theorem dcs_len (D : List (ByteArray × Int)) : (dcs D).length = D.length * 2 := by
  induction D with
  | nil => rfl
  | cons d D ih =>
    show (_ :: _ :: dcs D).length = _
    simp [ih]
    omega
theorem dcs_append (D E : List (ByteArray × Int)) : dcs (D ++ E) = dcs D ++ dcs E := by simp [dcs]
theorem dcs_one (D : List (ByteArray × Int)) : ∀ u ∈ dcs D, u.oneCell' = true := by
  intro u hu
  obtain ⟨d, _, h⟩ := List.mem_flatMap.1 hu
  simp at h
  rcases h with rfl | rfl <;> rfl
theorem dcs_get {D : List (ByteArray × Int)} {j : Nat} {u : Value} (h : (dcs D)[j]? = some u) : ∃ d, D[j / 2]? = some d ∧ u = if j % 2 = 0 then .string d.1 else .int .i64 d.2 := by
  induction D generalizing j with
  | nil => simp [dcs] at h
  | cons d D ih =>
    match j with
    | 0 => exact ⟨d, rfl, by simp [dcs] at h; simp [h]⟩
    | 1 => exact ⟨d, rfl, by simp [dcs] at h; simp [h]⟩
    | j + 2 =>
      have h' : (dcs D)[j]? = some u := by simpa [dcs] using h
      obtain ⟨e, h1, h2⟩ := ih h'
      refine ⟨e, ?_, ?_⟩
      · rw [show (j + 2) / 2 = j / 2 + 1 by omega]
        simpa using h1
      · rw [show (j + 2) % 2 = j % 2 by omega]
        exact h2
/-- A part of a row that is read. -/
theorem RowAt.src {W : World} {g o c : Nat} {E : List (ByteArray × Int)} {ad : Option Addr} (h : RowAt W ad c E) (e : ad = some ⟨g, o, none⟩) (k m : Nat) : SrcD W (some ⟨g, o + k * 2, none⟩) ((E.drop k).take m).length ((E.drop k).take m) := by
  refine ⟨rfl, fun h => (by cases h), fun p hp j u hu => ?_⟩
  cases hp
  rcases h.2 with ⟨h0, _⟩ | ⟨g', o', arr, e', h1, h2⟩
  · rw [h0] at e; cases e
  · rw [e] at e'
    cases e'
    obtain ⟨d, h3, rfl⟩ := dcs_get hu
    have h4 : E[k + j / 2]? = some d := by
      rw [List.getElem?_take] at h3
      split at h3
      · rwa [List.getElem?_drop] at h3
      · cases h3
    obtain ⟨h5, h6⟩ := h2 _ _ h4
    rw [Addr.add_mid]
    by_cases hj : j % 2 = 0
    · rw [if_pos hj]
      refine one_cell h1 ?_
      rw [show o + k * 2 + j = o + (k + j / 2) * 2 by omega]
      exact h5
    · rw [if_neg hj]
      refine one_cell h1 ?_
      rw [show o + k * 2 + j = o + (k + j / 2) * 2 + 1 by omega]
      exact h6
theorem SrcD.kept {W W' : World} {ad : Option Addr} {m : Nat} {D : List (ByteArray × Int)} (h : SrcD W ad m D) (hb : ∀ p : Addr, (W.cell? p).isSome → W'.cell? p = W.cell? p) : SrcD W' ad m D :=
  ⟨h.len, h.bare, fun p hp j u hu => by have := h.cell p hp j u hu; rw [hb _ (by rw [this]; rfl)]; exact this⟩
theorem SrcD.grown {W W' : World} {g m : Nat} {D : List (ByteArray × Int)} {row : Option Nat} (h : SrcD W (some ⟨g, 0, none⟩) m D) (hg : W.grownBy W' row) (hne : row ≠ some g) (hlt : g < W.heap.size) : SrcD W' (some ⟨g, 0, none⟩) m D :=
  ⟨h.len, h.bare, fun p hp j u hu => by
    have h1 := h.cell p hp j u hu
    cases hp
    rw [Addr.add_mid] at h1 ⊢
    exact (World.cell?_of_block (w := W) (a := ⟨g, 0 + j, none⟩) (hg.block g hlt (fun e => hne e.symm))).trans h1⟩
theorem cell_some {W W' : World} (hb : Below W.heap.size W W') (p : Addr) (h : (W.cell? p).isSome) : W'.cell? p = W.cell? p := by
  obtain ⟨u, hu⟩ := Option.isSome_iff_exists.1 h
  exact hb.cell (World.block_lt_of_cell? W p hu)
theorem run_bs0 (w : World) : (Instr.buildSlice 29 0 #[]).run Try.prog w = .ok (.slice (some ⟨w.heap.size, 0, none⟩) 0 0) (w.alloc (.cells #[] 39)) := by kernel_rfl
theorem run_bs1 (s : ByteArray) (t : Int) (w : World) : (Instr.buildSlice 29 1 #[(0, .agg #[.string s, .int .i64 t])]).run Try.prog w = .ok (.slice (some ⟨w.heap.size, 0, none⟩) 1 1) (w.alloc (.cells #[.string s, .int .i64 t] 39)) := by kernel_rfl
section
variable {ops : Array Oper} {op : Oper} {a : Act} {w : World} {K : Act → World → Prop} {Q : Exit → Act → World → Prop} {E : Prop}
theorem sBs0 (hw : Region.wanted op (yielded ops a.tmps) = true) (ho : op.op = .buildSlice 29 0 #[])
    (h : ∀ W, W.ownsRow w.heap.size 39 2 (.slice (some ⟨w.heap.size, 0, none⟩) 0 0) 0 (dcs []) → Below w.heap.size w W → w.heap.size < W.heap.size → K (a.put op.dst (.slice (some ⟨w.heap.size, 0, none⟩) 0 0)) W) : if Region.wanted op (yielded ops a.tmps) = true then Oper.wp Try.prog op a w K Q else E := by
  rw [if_pos hw]
  unfold Oper.wp execOp
  simp only [ho, List.map_toArray, List.map_nil, Sem.run_bind, run_bs0, Result.andThen_ok, Sem.run_pure]
  refine h _ ⟨rfl, .inr ⟨w.heap.size, 0, #[], rfl, Nat.le_refl _, ?_, Nat.le_refl _, by unfold maxLen; omega, rfl, rfl⟩⟩ ((Below.refl _ _).alloc (Nat.le_refl _) _) (by simp)
  exact new_block w #[] 39
theorem sBs1 (x : Operand) (s : ByteArray) (t : Int) (hw : Region.wanted op (yielded ops a.tmps) = true) (ho : op.op = .buildSlice 29 1 #[(0, x)]) (hx : a.eval x = .agg #[.string s, .int .i64 t])
    (h : ∀ W, SrcD W (some ⟨w.heap.size, 0, none⟩) 1 [(s, t)] → Below w.heap.size w W → w.heap.size < W.heap.size → K (a.put op.dst (.slice (some ⟨w.heap.size, 0, none⟩) 1 1)) W) : if Region.wanted op (yielded ops a.tmps) = true then Oper.wp Try.prog op a w K Q else E := by
  rw [if_pos hw]
  unfold Oper.wp execOp
  simp only [ho, List.map_toArray, List.map_cons, List.map_nil, Sem.run_bind, hx, run_bs1, Result.andThen_ok, Sem.run_pure]
  refine h _ ⟨rfl, fun h => (by cases h), fun p hp j u hu => ?_⟩ ((Below.refl _ _).alloc (Nat.le_refl _) _) (by simp)
  cases hp
  rw [Addr.add_mid, Nat.zero_add]
  refine one_cell (new_block w #[.string s, .int .i64 t] 39) ?_
  simpa [dcs] using hu
theorem sAppD (s x : Operand) (hw : Region.wanted op (yielded ops a.tmps) = true)
    (ho : op.op = .call { callee := .builtin .append, args := #[s, x], argTypes := #[29, 29] })
    (base : Nat) (v : Value) (n : Nat) (D : List (ByteArray × Int)) (hs : a.eval s = v) (hown : w.ownsRow base 39 2 v n (dcs D))
    (ad : Option Addr) (m c : Nat) (D2 : List (ByteArray × Int)) (hx : a.eval x = .slice ad m c) (hc : ad = none → c = 0) (hsrc : SrcD w ad m D2)
    (hbytes : n + m ≤ 4000000000000) (hbase : base ≤ w.heap.size)
    (h : ∀ v' w', w'.ownsRow base 39 2 v' (n + m) (dcs (D ++ D2)) → w.grownBy w' v.ownBlock → K (a.put op.dst v') w') : if Region.wanted op (yielded ops a.tmps) = true then Oper.wp Try.prog op a w K Q else E := by
  rw [if_pos hw]
  obtain ⟨i0, hi, hz0, hz1, hz2⟩ := info_parts infoD3
  cases ad with
  | some ad => exact wp_append_own w s x 29 ho base 39 i0 (.agg #[.string ⟨#[]⟩, .int .i64 0]) 2 24 Try.underlying29 hi hz0 hz1 hz2 rfl (by decide) v n (dcs D) hs hown ad m c (dcs D2) hx (by rw [dcs_len, hsrc.len]) (hsrc.cell ad rfl) (dcs_one D2) (by unfold maxLen; omega) (by omega) hbase (fun v' w' h1 h2 _ => h v' w' (by rw [dcs_append]; exact h1) h2)
  | none =>
    have hD := hsrc.bare rfl
    have hm := hsrc.len
    have hc0 := hc rfl
    subst hD hc0
    simp at hm
    subst hm
    have hrun := run_append_owned_none (P := Try.prog) (w := w) base 29 op.type 39 i0 2 Try.underlying29 hi _ n (dcs D) hown
    unfold Oper.wp
    simp [execOp, ho, resolve, invoke, builtin, hs, hx, hrun, Result.andThen]
    exact h v w (by simpa using hown) (World.grownBy.refl _ _)
theorem sStL (x y : Operand) (ho : op.op = .store 29 x y) (hw : Region.wanted op (yielded ops a.tmps) = true) (b : Nat) (ad : Option Addr) (m c : Nat) (u : Value) (hc : w.cell? ⟨b, 0, none⟩ = some u) (hf : w.frozen? ⟨b, 0, none⟩ = false) (hx : a.eval x = .pointer (some ⟨b, 0, none⟩)) (hy : a.eval y = .slice ad m c)
    (h : K (a.put op.dst undef) (w.setCell ⟨b, 0, none⟩ (.slice ad m c))) : if Region.wanted op (yielded ops a.tmps) = true then Oper.wp Try.prog op a w K Q else E := by
  rw [if_pos hw]
  have hr : (Instr.storeAt 29 (.pointer (some ⟨b, 0, none⟩)) (.slice ad m c)).run Try.prog w = .ok () (w.setCell ⟨b, 0, none⟩ (.slice ad m c)) := by go_simp
  unfold Oper.wp execOp
  simp only [ho, hx, hy, Sem.run_bind, hr, Result.andThen_ok]
  exact h
end
theorem dcs_at2 {E : List (ByteArray × Int)} {j : Nat} (hj : j < E.length) : (dcs E)[j * 2]? = some (.string E[j].1) ∧ (dcs E)[j * 2 + 1]? = some (.int .i64 E[j].2) := by
  induction E generalizing j with
  | nil => simp at hj
  | cons t E ih =>
    cases j with
    | zero => exact ⟨rfl, rfl⟩
    | succ j =>
      have := ih (j := j) (by simpa using hj)
      rw [show (j + 1) * 2 = j * 2 + 2 by omega, show j * 2 + 2 + 1 = (j * 2 + 1) + 2 by omega]
      simpa [dcs] using this
theorem src_from {W V : World} {g o c : Nat} {E : List (ByteArray × Int)} (h : RowAt W (some ⟨g, o, none⟩) c E) (hV : Below W.heap.size W V) (j : Nat) : SrcD V (if c = j then some ⟨g, o, none⟩ else some ⟨g, o + j * 2, none⟩) (E.length - j) (E.drop j) := by
  by_cases e : c = j
  · rw [if_pos e]
    have hd : E.drop j = [] := List.drop_eq_nil_of_le (by have := h.1; omega)
    rw [hd]
    exact ⟨by have := h.1; simp; omega, fun _ => rfl, fun p hp i u hu => by simp [dcs] at hu⟩
  · rw [if_neg e]
    have := h.src rfl j (E.length - j)
    rw [List.take_of_length_le (by simp), List.length_drop] at this
    exact this.kept (cell_some hV)
theorem ite_some {p : Prop} [Decidable p] {x y : Addr} : (if p then some x else some y) ≠ none := by split <;> simp
theorem own_base {W : World} {b b' : Nat} {T : TypeId} {s : Nat} {v : Value} {n : Nat} {xs : List Value} (h : W.ownsRow b T s v n xs) (hb : b' ≤ b) : W.ownsRow b' T s v n xs := by
  refine ⟨h.1, ?_⟩
  rcases h.2 with h0 | ⟨g, cap, cur, e, h2, h3⟩
  · exact .inl h0
  · exact .inr ⟨g, cap, cur, e, Nat.le_trans hb h2, h3⟩
theorem RowAt.own {W : World} {b : Nat} {a : Option Addr} {n c : Nat} {D : List (ByteArray × Int)} (h : W.ownsRow b 39 2 (.slice a n c) n (dcs D)) (hn : n = D.length) : RowAt W a c D := by
  rcases h.2 with ⟨e, h0⟩ | ⟨g, cap, cur, e, h2, h3, h4, h5, h6, h7⟩
  · cases e
    exact ⟨by omega, .inl ⟨rfl, rfl⟩⟩
  · cases e
    refine ⟨by omega, .inr ⟨g, 0, cur, rfl, h3, fun j d hd => ?_⟩⟩
    have hj : j < D.length := (List.getElem?_eq_some_iff.1 hd).1
    obtain ⟨d1, d2⟩ := dcs_at2 hj
    have he : D[j] = d := (List.getElem?_eq_some_iff.1 hd).2
    rw [he] at d1 d2
    have hg : ∀ i v, (dcs D)[i]? = some v → cur[i]? = some v := fun i v hv => by
      rw [← h7] at hv
      rw [List.getElem?_take] at hv
      split at hv
      · rw [← Array.getElem?_toList]; exact hv
      · cases hv
    rw [Nat.zero_add]
    exact ⟨hg _ _ d1, hg _ _ d2⟩
/-- The document's queue behind a store of a new row. -/
theorem Rq.store {W V : World} {r : Nat} {a a' : Option Addr} {c c' n b : Nat} {E D : List (ByteArray × Int)} (h : Rq W r a c E) (hb : Below W.heap.size W V) (ho : V.ownsRow b 39 2 (.slice a' n c') n (dcs D)) (hn : n = D.length) :
    Rq (V.setCell ⟨r, 0, none⟩ (.slice a' n c')) r a' c' D ∧ Frm (fun j => j = r) W (V.setCell ⟨r, 0, none⟩ (.slice a' n c')) := by
  have hq : V.heap[r]? = _ := (hb.block r h.lt).trans h.que
  refine ⟨⟨?_, ?_⟩, (Frm.of_below (S := fun j => j = r) hb).setCell (p := ⟨r, 0, none⟩) (.inl rfl) _⟩
  · rw [set_block hq _, hn]
    simp
  · refine (RowAt.own ho hn).kept fun g arr h1 => ?_
    rw [set_other (fun e => by rw [e, hq] at h1; simp at h1)]
    exact h1
/-- What Cancel leaves of the document's queue. -/
def RPost (W : World) (r : Nat) (D : List (ByteArray × Int)) (v : Value) (e : Ending) (w' : World) : Prop := e = .returned v ∧ ∃ a c, Rq w' r a c D ∧ Frm (fun j => j = r) W w'
theorem rcancel_miss (W : World) (r : Nat) (a : Option Addr) (c : Nat) (E : List (ByteArray × Int)) (s : ByteArray) (h : Rq W r a c E) (hE : E.length ≤ 100000) (hf : ∀ d ∈ E, d.1 ≠ s) :
    Calls Try.prog 14 #[.pointer (some ⟨r, 0, none⟩), .string s] W (RPost W r E (.bool false)) := by
  have FM := find_miss W r a c E s h hE hf
  have HR : Hid (Rq W r a c E) := h
  clear h hf
  go_enter Try.func14, Try.ntmps14
  go_wp2_with (go_at_call 23; refine FM.mono ?_; rintro e w1 ⟨rfl, rfl⟩)
  go_ret
  exact ⟨rfl, a, c, HR.out, Frm.refl _ _⟩
set_option maxHeartbeats 4000000 in
set_option maxRecDepth 100000 in
theorem rcancel_hit (W : World) (r : Nat) (a : Option Addr) (c : Nat) (E : List (ByteArray × Int)) (s : ByteArray) (h : Rq W r a c E) (hE : E.length ≤ 100000) (k : Nat) (hk : k < E.length) (hs : E[k].1 = s) (hf : ∀ j (hj : j < k), (E[j]'(by omega)).1 ≠ s) :
    Calls Try.prog 14 #[.pointer (some ⟨r, 0, none⟩), .string s] W (RPost W r (E.take k ++ E.drop (k + 1)) (.bool true)) := by
  have FH := find_hit W r a c E s h hE k hk hs hf
  have hr := h.lt
  have c0 : W.cell? ⟨r, 0, none⟩ = some (.slice a E.length c) := one_cell h.que rfl
  have HR : Hid (Rq W r a c E) := h
  obtain ⟨g, o, rfl, _, _⟩ := h.row.dues k hk
  have hcap := h.row.1
  have HT : Hid (∀ V, Below W.heap.size W V → SrcD V (some ⟨g, o, none⟩) k (E.take k)) := fun V hV => by
    have := h.row.src rfl 0 k
    rw [List.drop_zero, List.length_take, Nat.min_eq_left (by omega), Nat.zero_mul, Nat.add_zero] at this
    exact this.kept (cell_some hV)
  have HU : Hid (∀ V, Below W.heap.size W V → SrcD V (if c = k + 1 then some ⟨g, o, none⟩ else some ⟨g, o + (k + 1) * 2, none⟩) (E.length - (k + 1)) (E.drop (k + 1))) := fun V hV => src_from h.row hV (k + 1)
  have hw1 : wrap64 ((k : Int) + 1) = (k : Int) + 1 := by unfold wrap64; omega
  have hw2 : IntKind.i64.wrap ((k : Int) + 1) = (k : Int) + 1 := (IntWalk.i64_left _).trans hw1
  have hn1 : ((k : Int) + 1).toNat = k + 1 := by omega
  have x5 : (0 : Int) ≤ (k : Int) + 1 := by omega
  have x1 : (0 : Int) ≤ (k : Int) := by omega
  have x2 : (k : Int) ≤ (c : Int) := by omega
  have x3 : (k : Int) + 1 ≤ (E.length : Int) := by omega
  have x4 : (E.length : Int) ≤ (c : Int) := by omega
  clear h hf hs
  go_enter Try.func14, Try.ntmps14
  go_wp2_with (go_at_call 23; refine FH.mono ?_; rintro e w1 ⟨rfl, rfl⟩)
  refine wp_region_noPanic ?_
  refine wp_region_N (S := fun V => Below W.heap.size W V) 19 (by kernel_rfl) ((Below.refl _ _).drew) (fun hHeld => ?_)
  refine takeN_lit (i := 0) (v := ?_) (F := #[false, true, true, true, true, true, true, true, true, true, true, true, true, true, true, true, true, false, false, false]) rfl (by kernel_rfl) (by kernel_rfl) (by kernel_rfl) (by kernel_rfl) (fun _ _ _ h => h) (Or.inl ⟨by rfl, ?_⟩) (by assumption) ?_
  rotate_left
  · (intro w hSw; (try dsimp only at hSw); go_simp <;> with_reducible rfl)
  try simp only [Act.put, List.setIfInBounds_toArray, List.set_cons_zero, List.set_cons_succ]
  refine takeN_lit (i := 2) (v := ?_) (F := #[true, true, false, false, false, false, true, false, false, true, true, true, true, true, true, true, false, false, false, false]) rfl (by kernel_rfl) (by kernel_rfl) (by kernel_rfl) (by kernel_rfl) (fun _ _ _ h => h) (Or.inl ⟨by rfl, ?_⟩) (by assumption) ?_
  rotate_left
  · (intro w hSw; (try dsimp only at hSw); go_simp <;> with_reducible rfl)
  try simp only [Act.put, List.setIfInBounds_toArray, List.set_cons_zero, List.set_cons_succ]
  refine takeN_lit (i := 3) (v := ?_) (F := #[true, true, true, false, false, false, true, false, false, true, true, true, true, true, true, true, false, false, false, false]) rfl (by kernel_rfl) (by kernel_rfl) (by kernel_rfl) (by kernel_rfl) (fun _ _ _ h => h) (Or.inl ⟨by rfl, ?_⟩) (by assumption) ?_
  rotate_left
  · (intro w hSw; (try dsimp only at hSw); go_simp <;> with_reducible rfl)
  try simp only [Act.put, List.setIfInBounds_toArray, List.set_cons_zero, List.set_cons_succ]
  refine takeN_lit (i := 4) (v := ?_) (F := #[true, true, true, true, false, false, true, false, false, true, true, true, true, true, true, true, false, false, false, false]) rfl (by kernel_rfl) (by kernel_rfl) (by kernel_rfl) (by kernel_rfl) (fun _ _ _ h => h) (Or.inl ⟨by rfl, ?_⟩) (by assumption) ?_
  rotate_left
  · (intro w hSw; (try dsimp only at hSw); go_simp <;> with_reducible rfl)
  try simp only [Act.put, List.setIfInBounds_toArray, List.set_cons_zero, List.set_cons_succ]
  refine takeN_lit (i := 5) (v := ?_) (F := #[true, true, true, true, true, false, true, false, false, true, true, true, true, true, true, true, false, false, false, false]) rfl (by kernel_rfl) (by kernel_rfl) (by kernel_rfl) (by kernel_rfl) (fun _ _ _ h => h) (Or.inl ⟨by rfl, ?_⟩) (by assumption) ?_
  rotate_left
  · (intro w hSw; (try dsimp only at hSw); have c1 := (hSw.cell (p := ⟨r, 0, none⟩) hr).trans c0; go_simp <;> with_reducible rfl)
  try simp only [Act.put, List.setIfInBounds_toArray, List.set_cons_zero, List.set_cons_succ]
  refine takeN_lit (i := 6) (v := ?_) (F := #[true, true, true, true, true, true, false, false, false, true, true, true, true, true, true, true, false, false, false, false]) rfl (by kernel_rfl) (by kernel_rfl) (by kernel_rfl) (by kernel_rfl) (fun _ _ _ h => h) (Or.inl ⟨by rfl, ?_⟩) (by assumption) ?_
  rotate_left
  · (intro w hSw; (try dsimp only at hSw); go_simp <;> with_reducible rfl)
  try simp only [Act.put, List.setIfInBounds_toArray, List.set_cons_zero, List.set_cons_succ]
  refine takeN_lit (i := 7) (v := ?_) (F := #[true, true, true, true, true, true, true, false, false, true, true, true, true, true, true, true, false, false, false, false]) rfl (by kernel_rfl) (by kernel_rfl) (by kernel_rfl) (by kernel_rfl) (fun _ _ _ h => h) (Or.inl ⟨by rfl, ?_⟩) (by assumption) ?_
  rotate_left
  · (intro w hSw; (try dsimp only at hSw); go_simp <;> with_reducible rfl)
  try simp only [Act.put, List.setIfInBounds_toArray, List.set_cons_zero, List.set_cons_succ]
  refine takeN_lit (i := 9) (v := ?_) (F := #[true, true, true, true, true, true, true, true, true, false, false, false, false, true, true, false, false, false, false, false]) rfl (by kernel_rfl) (by kernel_rfl) (by kernel_rfl) (by kernel_rfl) (fun _ _ _ h => h) (Or.inl ⟨by rfl, ?_⟩) (by assumption) ?_
  rotate_left
  · (intro w hSw; (try dsimp only at hSw); go_simp <;> with_reducible rfl)
  try simp only [Act.put, List.setIfInBounds_toArray, List.set_cons_zero, List.set_cons_succ]
  refine takeN_lit (i := 10) (v := ?_) (F := #[true, true, true, true, true, true, true, true, true, true, false, false, false, true, true, false, false, false, false, false]) rfl (by kernel_rfl) (by kernel_rfl) (by kernel_rfl) (by kernel_rfl) (fun _ _ _ h => h) (Or.inl ⟨by rfl, ?_⟩) (by assumption) ?_
  rotate_left
  · (intro w hSw; (try dsimp only at hSw); go_simp <;> with_reducible rfl)
  try simp only [Act.put, List.setIfInBounds_toArray, List.set_cons_zero, List.set_cons_succ]
  refine takeN_lit (i := 11) (v := ?_) (F := #[true, true, true, true, true, true, true, true, true, true, true, false, false, true, true, false, false, false, false, false]) rfl (by kernel_rfl) (by kernel_rfl) (by kernel_rfl) (by kernel_rfl) (fun _ _ _ h => h) (Or.inl ⟨by rfl, ?_⟩) (by assumption) ?_
  rotate_left
  · (intro w hSw; (try dsimp only at hSw); go_simp <;> with_reducible rfl)
  try simp only [Act.put, List.setIfInBounds_toArray, List.set_cons_zero, List.set_cons_succ]
  refine takeN_lit (i := 12) (v := ?_) (F := #[true, true, true, true, true, true, true, true, true, true, true, true, false, true, true, false, false, false, false, false]) rfl (by kernel_rfl) (by kernel_rfl) (by kernel_rfl) (by kernel_rfl) (fun _ _ _ h => h) (Or.inl ⟨by rfl, ?_⟩) (by assumption) ?_
  rotate_left
  · (intro w hSw; (try dsimp only at hSw); have c1 := (hSw.cell (p := ⟨r, 0, none⟩) hr).trans c0; go_simp <;> with_reducible rfl)
  try simp only [Act.put, List.setIfInBounds_toArray, List.set_cons_zero, List.set_cons_succ]
  refine takeN_lit (i := 13) (v := ?_) (F := #[true, true, true, true, true, true, true, true, true, true, true, true, true, false, false, false, false, false, false, false]) rfl (by kernel_rfl) (by kernel_rfl) (by kernel_rfl) (by kernel_rfl) (fun _ _ _ h => h) (Or.inl ⟨by rfl, ?_⟩) (by assumption) ?_
  rotate_left
  · (intro w hSw; (try dsimp only at hSw); go_simp <;> with_reducible rfl)
  try simp only [Act.put, List.setIfInBounds_toArray, List.set_cons_zero, List.set_cons_succ]
  refine takeN_lit (i := 14) (v := ?_) (F := #[true, true, true, true, true, true, true, true, true, true, true, true, true, true, false, false, false, false, false, false]) rfl (by kernel_rfl) (by kernel_rfl) (by kernel_rfl) (by kernel_rfl) (fun _ _ _ h => h) (Or.inl ⟨by rfl, ?_⟩) (by assumption) ?_
  rotate_left
  · (intro w hSw; (try dsimp only at hSw); go_simp <;> with_reducible rfl)
  try simp only [Act.put, List.setIfInBounds_toArray, List.set_cons_zero, List.set_cons_succ]
  refine takeN_lit (i := 15) (v := ?_) (F := #[true, true, true, true, true, true, true, true, true, true, true, true, true, true, true, false, false, false, false, false]) rfl (by kernel_rfl) (by kernel_rfl) (by kernel_rfl) (by kernel_rfl) (fun _ _ _ h => h) (Or.inl ⟨by rfl, ?_⟩) (by assumption) ?_
  rotate_left
  · (intro w hSw; (try dsimp only at hSw); go_simp <;> with_reducible rfl)
  try simp only [Act.put, List.setIfInBounds_toArray, List.set_cons_zero, List.set_cons_succ]
  refine wpAnyN_ready (rs := [1]) (by kernel_rfl) (by simp) ?_
  refine consN_lit rfl (fun K hK => ?_) ?_
  · skip
    refine sBs0 (by rfl) rfl ?_
    intro W1 o1 b1 _
    replace o1 := own_base o1 hHeld.size
    refine hK.out _ _ (Or.inr ?_) (fun hHeld => ?_)
    · exact hHeld.trans (b1.mono hHeld.size)
    replace hHeld := hHeld.resolve_left (by decide)
    clear hK K
    try simp only [Act.put, List.setIfInBounds_toArray, List.set_cons_zero, List.set_cons_succ]
    refine wpAnyN_ready (rs := [8]) (by kernel_rfl) (by simp) ?_
    refine consN_lit rfl (fun K hK => ?_) ?_
    · skip
      refine sAppD (.tmp 12) (.tmp 18) (by rfl) rfl W.heap.size _ 0 [] (by rfl) o1 (some ⟨g, o, none⟩) k c (E.take k) (by rfl) (fun h => by cases h) (HT.out _ hHeld) (by omega) hHeld.size ?_
      intro v8 W8 o8 g8
      rw [Nat.zero_add, List.nil_append] at o8
      refine hK.out _ _ (Or.inr ?_) (fun hHeld => ?_)
      · exact hHeld.grown g8 hHeld.size (fun j hj => ownS_base o1 j hj)
      replace hHeld := hHeld.resolve_left (by decide)
      clear hK K
      try simp only [Act.put, List.setIfInBounds_toArray, List.set_cons_zero, List.set_cons_succ]
      refine wpAnyN_ready (rs := [16]) (by kernel_rfl) (by simp) ?_
      refine consN_lit rfl (fun K hK => ?_) ?_
      · skip
        refine sAppD (.tmp 19) (.tmp 26) (by rfl) rfl W.heap.size v8 k (E.take k) (by rfl) o8 (if c = k + 1 then some ⟨g, o, none⟩ else some ⟨g, o + (k + 1) * 2, none⟩) (E.length - (k + 1)) (c - (k + 1)) (E.drop (k + 1)) (by rfl) (fun h => absurd h ite_some) (HU.out _ hHeld) (by omega) hHeld.size ?_
        intro v16 W16 o16 g16
        obtain ⟨a16, c16, rfl⟩ := ownS_shape o16
        refine hK.out _ _ (Or.inr ?_) (fun hHeld => ?_)
        · exact hHeld.grown g16 hHeld.size (fun j hj => ownS_base o8 j hj)
        replace hHeld := hHeld.resolve_left (by decide)
        clear hK K
        try simp only [Act.put, List.setIfInBounds_toArray, List.set_cons_zero, List.set_cons_succ]
        refine takeN_lit (i := 17) (v := ?_) (F := #[true, true, true, true, true, true, true, true, true, true, true, true, true, true, true, true, true, false, false, false]) rfl (by kernel_rfl) (by kernel_rfl) (by kernel_rfl) (by kernel_rfl) (fun _ _ _ h => h) (Or.inl ⟨by rfl, ?_⟩) (by assumption) ?_
        rotate_left
        · (intro w hSw; (try dsimp only at hSw); go_simp <;> with_reducible rfl)
        try simp only [Act.put, List.setIfInBounds_toArray, List.set_cons_zero, List.set_cons_succ]
        refine takeN_lit (i := 18) (v := ?_) (F := #[true, true, true, true, true, true, true, true, true, true, true, true, true, true, true, true, true, true, false, false]) rfl (by kernel_rfl) (by kernel_rfl) (by kernel_rfl) (by kernel_rfl) (fun _ _ _ h => h) (Or.inl ⟨by rfl, ?_⟩) (by assumption) ?_
        rotate_left
        · (intro w hSw; (try dsimp only at hSw); go_simp <;> with_reducible rfl)
        try simp only [Act.put, List.setIfInBounds_toArray, List.set_cons_zero, List.set_cons_succ]
        refine wpAnyN_ready (rs := [19]) (by kernel_rfl) (by simp) ?_
        refine consN_lit rfl (fun K hK => ?_) ?_
        · skip
          refine sStL (.tmp 29) (.tmp 27) rfl (by rfl) r a16 _ c16 _ ((hHeld.cell (p := ⟨r, 0, none⟩) hr).trans c0) (one_free ((hHeld.block r hr).trans HR.out.que)) (by rfl) (by rfl) ?_
          refine hK.out _ _ (Or.inl rfl) (fun _ => ?_)
          clear hK K
          try simp only [Act.put, List.setIfInBounds_toArray, List.set_cons_zero, List.set_cons_succ]
          refine wpAnyN_done (by kernel_rfl) ?_ _
          refine NoPanic.normal ?_
          obtain ⟨z1, z2⟩ := HR.out.store (D := E.take k ++ E.drop (k + 1)) hHeld o16 (by simp; omega)
          go_wp2
          all_goals
            go_ret
            exact ⟨rfl, _, _, z1, z2⟩
        exact AllReadyN.nil
      exact AllReadyN.nil
    exact AllReadyN.nil
  exact AllReadyN.nil
end Go.Proofs.Ytkamcnjofpamhaa
