/-
  timer's List: all timers, in the order in which they come, in memory of the call's own.
-/
import Derived.Test.YtkamcnjofpamhaaTSrt
import Derived.Laws.AppendOwnNone
import Derived.Shelf.SlSortCmp.NoneTotal
namespace Go.Proofs.Ytkamcnjofpamhaa
open Go.RowKit Go.Shelf
set_option linter.unusedSimpArgs false
/-- None comes ahead of one that stands before it. -/
def Srt (K : List Tm) : Prop := ∀ i j (hi : i < K.length) (hj : j < K.length), i < j → ¬ Ah K[j] K[i]
/-- What slices.SortedFunc tells. -/
def SortedTo (w : World) (L : List Tm) (e : Ending) (w' : World) : Prop := ∃ a c K, e = .returned (.slice a K.length c) ∧ K.Perm L ∧ Srt K ∧ (∀ i (hi : i < K.length), ∃ g cur, a = some ⟨g, 0, none⟩ ∧ w.heap.size ≤ g ∧ w'.heap[g]? = some (.cells cur 64 (0, 0)) ∧ cur[i]? = some (encT K[i])) ∧ Below w.heap.size w w'
theorem cell_in {w : World} {b j : Nat} {v : Value} {cur : Array Value} {T : TypeId} {f : Nat × Nat} (h : w.heap[b]? = some (.cells cur T f)) (c : w.cell? ⟨b, j, none⟩ = some v) : cur[j]? = some v := by simpa [World.cell?, h] using c
theorem sorted_none (Bs cap : Nat) (a : Option Addr) (w : World) (h1 : Bs < w.heap.size) (c1 : w.cell? ⟨Bs, 0, none⟩ = some (.slice a 0 cap)) :
    Calls Try.prog 33 #[.func (.func 42) #[] #[.pointer (some ⟨Bs, 0, none⟩)], .func (.func 35) #[] #[]] w (SortedTo w []) := by
  have hC := collect_any Bs cap [] a w (by simp) h1 c1 (fun i hi => absurd hi (by simp))
  have hS : ∀ p c W, Calls Try.prog 41 #[.slice p 0 c, .func (.func 35) #[] #[]] W fun e w' => e = .returned (.tuple #[]) ∧ w' = W := fun p c W => AnyF.slices_SortFunc_none (P := Try.prog) (ρ := Try.sortL_ren) { Try.sortL with } p c _ W
  clear c1 h1
  go_enter Try.func33, Try.ntmps33
  go_wp2_with (first
    | (go_at_call 41; refine (hS _ _ _).mono ?_; rintro e w2 ⟨rfl, rfl⟩)
    | (go_at_call 40; refine hC.mono ?_; rintro e w1 ⟨r, rfl, hO, hB⟩; obtain ⟨va, vc, rfl⟩ := ownT_slice hO))
  go_ret
  exact ⟨_, _, [], rfl, List.Perm.refl _, fun i j hi => absurd hi (by simp), fun i hi => absurd hi (by simp), hB⟩
theorem sorted_some (Bs cap : Nat) (L : List Tm) (a : Option Addr) (w : World) (hne : 0 < L.length) (hL : L.length ≤ 10000) (h1 : Bs < w.heap.size) (c1 : w.cell? ⟨Bs, 0, none⟩ = some (.slice a L.length cap)) (hv : LineAt w w.heap.size a L) (hT : ∀ t ∈ L, ∃ i, Tim w t i) :
    Calls Try.prog 33 #[.func (.func 42) #[] #[.pointer (some ⟨Bs, 0, none⟩)], .func (.func 35) #[] #[]] w (SortedTo w L) := by
  have hC : Calls Try.prog 40 #[.func (.func 42) #[] #[.pointer (some ⟨Bs, 0, none⟩)]] w fun e w' => ∃ g c, e = .returned (.slice (some ⟨g, 0, none⟩) L.length c) ∧ Hid (w.heap.size ≤ g ∧ Below w.heap.size w w' ∧ Calls Try.prog 41 #[.slice (some ⟨g, 0, none⟩) L.length c, .func (.func 35) #[] #[]] w' fun e w2 =>
      e = .returned (.tuple #[]) ∧ ∃ K : List Tm, K.Perm L ∧ Srt K ∧ (∀ i (hi : i < K.length), w2.cell? ⟨g, i, none⟩ = some (encT K[i])) ∧ (∀ B, B ≤ g → Below B w' w2) ∧ ∃ cur, w2.heap[g]? = some (.cells cur 64 (0, 0))) := by
    refine (collect_any Bs cap L a w hL h1 c1 hv).mono ?_
    rintro e w1 ⟨r, rfl, hO, hB⟩
    rcases hO.2 with ⟨_, h0⟩ | ⟨g, c, cur, rfl, h2, h3, h4, h5, h6, h7⟩
    · omega
    · have hgl := (Array.getElem?_eq_some_iff.1 h3).1
      refine ⟨g, c, rfl, h2, hB, ?_⟩
      refine (srt_any L g c w1 hne hL hgl (fun i hi => ⟨one_cell h3 (row_at (by simpa using h7) i hi), one_free h3⟩) (fun t ht => ?_)).mono ?_
      · obtain ⟨i, hi⟩ := hT t ht
        exact ⟨by have := hi.lt; omega, i, (hB.block _ hi.lt).trans hi⟩
      · rintro e w2 ⟨he, K, k1, k2, k3, k4, k5⟩
        exact ⟨he, K, k1, k2, k3, k4, k5 _ _ h3⟩
  clear c1 h1 hv hT
  go_enter Try.func33, Try.ntmps33
  go_wp2_with (first
    | (go_at_call 41; refine hX.out.2.2.mono ?_; rintro e w2 ⟨rfl, K, k1, k2, k3, k4, cur, k5⟩)
    | (go_at_call 40; refine hC.mono ?_; rintro e w1 ⟨g, c, rfl, hX⟩))
  go_ret
  obtain ⟨x1, x2, _⟩ := hX.out
  have hl : L.length = K.length := k1.length_eq.symm
  rw [hl]
  exact ⟨_, _, K, rfl, k1, k2, fun i hi => ⟨g, _, rfl, x1, k5, cell_in k5 (k3 i hi)⟩, x2.trans (k4 _ x1)⟩
theorem sorted_any (Bs cap : Nat) (L : List Tm) (a : Option Addr) (w : World) (hL : L.length ≤ 10000) (h1 : Bs < w.heap.size) (c1 : w.cell? ⟨Bs, 0, none⟩ = some (.slice a L.length cap)) (hv : LineAt w w.heap.size a L) (hT : ∀ t ∈ L, ∃ i, Tim w t i) :
    Calls Try.prog 33 #[.func (.func 42) #[] #[.pointer (some ⟨Bs, 0, none⟩)], .func (.func 35) #[] #[]] w (SortedTo w L) := by
  by_cases h : L.length = 0
  · obtain rfl := List.length_eq_zero_iff.1 h
    exact sorted_none Bs cap a w h1 c1
  · exact sorted_some Bs cap L a w (by omega) hL h1 c1 hv hT
/-- The cells of what is told. -/
def dcells (K : List Tm) : List Value := K.flatMap fun t => [.string t.nm, .int .i64 t.tm]
theorem dcells_append (K M : List Tm) : dcells (K ++ M) = dcells K ++ dcells M := by simp [dcells]
theorem infoD3 : (Try.prog.info? 39).map (fun i => (i.zero, i.size, i.bytes)) = some (some (.agg #[.string ⟨#[]⟩, .int .i64 0]), 2, 24) := by kernel_rfl
theorem append_due {w : World} {ops : Array Oper} {rest : List Oper} {o : Oper} {a : Act} {Q : Exit → Act → World → Prop} (hgd : o.guard = none) (s x : Operand)
    (ho : o.op = .call { callee := .builtin .append, args := #[s, x], argTypes := #[29, 29] })
    (base : Nat) (v : Value) (n : Nat) (ps : List Tm) (hs : a.eval s = v) (hown : w.ownsRow base 39 2 v n (dcells ps))
    (g : Nat) (p : Tm) (c : Nat) (hx : a.eval x = .slice (some ⟨g, 0, none⟩) 1 c) (hr : Row w g 39 [.string p.nm, .int .i64 p.tm])
    (hbytes : n + 1 ≤ 4000000000000) (hbase : base ≤ w.heap.size)
    (h : ∀ v' w', w'.ownsRow base 39 2 v' (n + 1) (dcells (ps ++ [p])) → w.grownBy w' v.ownBlock → wpList Try.prog ops Q rest (a.put o.dst v') w') : wpList Try.prog ops Q (o :: rest) a w := by
  obtain ⟨i0, hi, hz0, hz1, hz2⟩ := info_parts infoD3
  refine wpList_append_own w hgd s x 29 ho base 39 i0 (.agg #[.string ⟨#[]⟩, .int .i64 0]) 2 24 Try.underlying29 hi hz0 hz1 hz2 rfl (by decide) v n (dcells ps) hs hown ⟨g, 0, none⟩ 1 c [.string p.nm, .int .i64 p.tm] hx (by simp) (fun j u hu => ?_) (by simp [Value.oneCell']) (by unfold maxLen; omega) (by omega) hbase (fun v' w' h1 h2 _ => h v' w' (by rw [dcells_append]; simpa [dcells] using h1) h2)
  rw [Addr.add_mid, Nat.zero_add, hr.cell]
  exact hu
section
variable {W W' : World} {n0 k s : Nat} {T : TypeId} {xs : List Value} {v : Value}
theorem ownS_shape (h : W.ownsRow n0 T s v k xs) : ∃ a c, v = .slice a k c := by
  rcases h.2 with ⟨rfl, rfl⟩ | ⟨g, cap, cur, rfl, _⟩
  · exact ⟨_, _, rfl⟩
  · exact ⟨_, _, rfl⟩
theorem ownS_below (ho : W.ownsRow n0 T s v k xs) (hb : Below W.heap.size W W') : W'.ownsRow n0 T s v k xs :=
  ho.kept (row := none) ⟨hb.os, hb.tape, hb.output, hb.size, fun i hi _ => hb.block i hi⟩ (by cases v.ownBlock <;> simp)
theorem ownS_base (ho : W.ownsRow n0 T s v k xs) : ∀ j, v.ownBlock = some j → n0 ≤ j := fun j e => by
  rcases ho.2 with ⟨rfl, _⟩ | ⟨g, cap, cur, rfl, hb, _⟩
  · cases e
  · simp only [Value.ownBlock, Option.some.injEq] at e; omega
theorem ownS_ne (ho : W.ownsRow n0 T s v k xs) {b : Nat} {cur : Array Value} {T' : TypeId} {f : Nat × Nat} (h : W.heap[b]? = some (.cells cur T' f)) (hne : T' ≠ T) : some b ≠ v.ownBlock := fun e => by
  rcases ho.2 with ⟨rfl, _⟩ | ⟨g, cap, cur', rfl, _, hgb, _⟩
  · simp [Value.ownBlock] at e
  · simp only [Value.ownBlock, Option.some.injEq] at e
    subst e
    rw [h] at hgb
    cases hgb
    exact hne rfl
end
/-- What List tells. -/
def Lists (w : World) (L : List Tm) (e : Ending) (w' : World) : Prop := ∃ a c K, e = .returned (.slice a K.length c) ∧ K.Perm L ∧ Srt K ∧ w'.ownsRow w.heap.size 39 2 (.slice a K.length c) K.length (dcells K) ∧ Below w.heap.size w w'
/-- What the rounds of List keep. -/
structure LsAt (w wr : World) (g : Option Addr) (K : List Tm) (i : Nat) (v : Value) : Prop where
  own : wr.ownsRow w.heap.size 39 2 v i (dcells (K.take i))
  row : ∀ j (hj : j < K.length), ∃ b cur, g = some ⟨b, 0, none⟩ ∧ wr.heap[b]? = some (.cells cur 64 (0, 0)) ∧ cur[j]? = some (encT K[j])
  bel : Below w.heap.size w wr
set_option maxHeartbeats 2000000 in
theorem list_any (w : World) (q mb : Nat) (v : Value) (L : List Tm) (h : Qd w q mb v L) (hL : L.length ≤ 10000) : Calls Try.prog 20 #[.pointer (some ⟨q, 0, none⟩)] w (Lists w L) := by
  obtain ⟨a, cap, rfl⟩ := h.st.shape
  have c1 : w.cell? ⟨q, 0, none⟩ = some (.slice a L.length cap) := one_cell h.st.que rfl
  have hq : q < w.heap.size := (Array.getElem?_eq_some_iff.1 h.st.que).1
  have HT : Hid (∀ t ∈ L, ∃ i, Tim w t i) := fun t ht => by
    obtain ⟨j, hj, rfl⟩ := List.mem_iff_getElem.1 ht
    exact ⟨j, h.st.tim j hj⟩
  have HL : Hid (LineAt w w.heap.size a L) := fun i hi => by
    obtain ⟨g, cp, cur, e, h3, _, _, _, h7⟩ := h.st.row (by omega)
    cases e
    exact ⟨g, rfl, (Array.getElem?_eq_some_iff.1 h3).1, one_cell h3 (row_at h7 i hi)⟩
  have HS : Hid (∀ W, Below w.heap.size w W → Calls Try.prog 33 #[.func (.func 42) #[] #[.pointer (some ⟨W.heap.size, 0, none⟩)], .func (.func 35) #[] #[]] (W.alloc (.cells #[.slice a L.length cap] 61)) (SortedTo (W.alloc (.cells #[.slice a L.length cap] 61)) L)) := fun W hW => by
    have hA : Below w.heap.size w (W.alloc (.cells #[.slice a L.length cap] 61)) := hW.alloc hW.size _
    refine sorted_any W.heap.size cap L a _ hL (by simp) (one_cell (new_block _ _ _) rfl) (fun i hi => ?_) (fun t ht => ?_)
    · obtain ⟨g, h1, h2, h3⟩ := HL.out i hi
      exact ⟨g, h1, Nat.lt_of_lt_of_le h2 hA.size, (hA.cell (p := ⟨g, i, none⟩) h2).trans h3⟩
    · obtain ⟨i, hi⟩ := HT.out t ht
      exact ⟨i, (hA.block _ hi.lt).trans hi⟩
  obtain ⟨i0, hi, hz0, hz1, hz2⟩ := info_parts infoD3
  clear h HL
  go_enter Try.func20, Try.ntmps20
  go_wp2_with (first
    | (at_make; refine wpList_make_own _ rfl _ _ 29 rfl w.heap.size 39 i0 (.agg #[.string ⟨#[]⟩, .int .i64 0]) 2 Try.underlying29 hi hz0 hz1 _ _ _ L.length rfl rfl (by omega) (by rw [hz2]; omega) (by unfold maxLen; omega) (Nat.le_refl _) ?_; intro w0 hown0 hgrow0; have hB0 : Below w.heap.size w w0 := (Below.refl _ _).grown hgrow0 (Nat.le_refl _) (fun k h => by cases h); have c2 : w0.cell? ⟨q, 0, none⟩ = some (.slice a L.length cap) := (hB0.cell (p := ⟨q, 0, none⟩) hq).trans c1)
    | (go_at_call 33; refine (HS.out _ hB0).mono ?_; rintro e w2 ⟨ga, gc, K, rfl, kp, ks, kr, kb⟩)
    | (go_at_call 34; refine (vals_any _ _ _ _).mono ?_; rintro e w1 ⟨rfl, rfl⟩))
  have b2 : Below w.heap.size w w2 := (hB0.alloc hB0.size _).trans (kb.mono (by simp; have := hB0.size; omega))
  have own2 : w2.ownsRow w.heap.size 39 2 (.slice (some ⟨w.heap.size, 0, none⟩) 0 L.length) 0 [] := (hown0.alloc _).kept (row := none) ⟨kb.os, kb.tape, kb.output, kb.size, fun i hi _ => kb.block i hi⟩ (by simp [Value.ownBlock])
  have HP : Hid (K.Perm L ∧ Srt K) := ⟨kp, ks⟩
  have hKL : K.length ≤ 10000 := by rw [kp.length_eq]; exact hL
  have H0 : LsAt w w2 ga K 0 (.slice (some ⟨w.heap.size, 0, none⟩) 0 L.length) := ⟨own2, fun j hj => by obtain ⟨g, cur, e1, _, e3, e4⟩ := kr j hj; exact ⟨g, cur, e1, e3, e4⟩, b2⟩
  clear HS hown0 hgrow0 kr kb own2 kp ks c1 c2 hB0 b2 hi hz0 hz1 hz2
  go_loopw [3, 21] (fun v u wr => ∃ i : Nat, u = .int .i64 i ∧ i ≤ K.length ∧ LsAt w wr ga K i v) (fun _ u _ => K.length - (intOf u).toNat)
  case atStart => exact ⟨0, rfl, Nat.zero_le _, H0⟩
  case round =>
    clear H0
    obtain ⟨i, rfl, hi, H⟩ := hrel
    by_cases hlt : i < K.length
    · obtain ⟨b, cur, rfl, hb, hc⟩ := H.row i hlt
      obtain ⟨p, hp⟩ := HT.out K[i] (HP.out.1.mem_iff.1 (List.getElem_mem hlt))
      have hTl := told_any wr K[i] p ((H.bel.block _ hp.lt).trans hp)
      have ht : K.take (i + 1) = K.take i ++ [K[i]] := by rw [List.take_add_one, List.getElem?_eq_getElem hlt]; rfl
      have hcc := one_cell hb hc
      unfold encT at hcc
      obtain ⟨va, vc, rfl⟩ := ownS_shape H.own
      have own0 := H.own
      have bel0 := H.bel
      have HR : Hid (∀ j (hj : j < K.length), ∃ b' cur, (some ⟨b, 0, none⟩ : Option Addr) = some ⟨b', 0, none⟩ ∧ wr.heap[b']? = some (.cells cur 64 (0, 0)) ∧ cur[j]? = some (encT K[j])) := H.row
      have hi' : (i : Int) < (K.length : Int) := by omega
      obtain ⟨t, hKi⟩ : ∃ t, K[i] = t := ⟨_, rfl⟩
      rw [hKi] at hTl ht hcc
      have HT2 : Hid (K.take (i + 1) = K.take i ++ [t]) := ht
      clear H ht hp hc hb hKi
      go_wp2_with (first
        | (go_at_call 32; refine hTl.mono ?_; rintro e w3 ⟨rfl, hB3⟩; have own3 := ownS_below own0 hB3; have z3 := bel0.size; have y3 := hB3.size)
        | (at_builtin; refine append_due rfl (.tmp 25) (.tmp 28) rfl w.heap.size _ i (K.take i) rfl (own3.alloc _) w3.heap.size t 1 rfl (Row.new w3 39 [.string t.nm, .int .i64 t.tm]) (by omega) (by simp; omega) ?_; intro v' w4 hown4 hg4))
      go_roundw
      case rel =>
        refine ⟨i + 1, by simp [wrap64], by omega, by rw [HT2.out]; exact hown4, fun j hj => ?_, ?_⟩
        · obtain ⟨b', cur', e1, e2, e3⟩ := HR.out j hj
          refine ⟨b', cur', e1, ?_, e3⟩
          have hl := (Array.getElem?_eq_some_iff.1 e2).1
          have e4 : (w3.alloc (.cells #[.string t.nm, .int .i64 t.tm] 39)).heap[b']? = some (.cells cur' 64 (0, 0)) := (Below.heap_alloc _ _ b' (by omega)).trans ((hB3.block _ hl).trans e2)
          exact (hg4.block b' (by simp; omega) (ownS_ne (own3.alloc _) e4 (by decide))).trans e4
        · exact ((bel0.trans (hB3.mono z3)).alloc (by omega) _).grown hg4 (by simp; omega) (fun k hk => ownS_base own3 k hk)
      case measure => simp [intOf]; omega
    · obtain rfl : i = K.length := by omega
      obtain ⟨va, vc, rfl⟩ := ownS_shape H.own
      have own0 := H.own
      have bel0 := H.bel
      rw [List.take_length] at own0
      clear H
      go_wp2
      go_ret
      exact ⟨_, _, K, rfl, HP.out.1, HP.out.2, own0, bel0⟩
end Go.Proofs.Ytkamcnjofpamhaa
