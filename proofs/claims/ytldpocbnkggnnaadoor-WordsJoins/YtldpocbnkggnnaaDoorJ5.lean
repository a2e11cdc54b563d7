/-
  The document's ParseId.
-/
import Derived.Test.YtldpocbnkggnnaaDoorJ3
import Derived.Test.YtldpocbnkggnnaaDoorJ4
import Derived.Test.YtldpocbnkggnnaaDoorR3
namespace Go.Proofs.YtldpocbnkggnnaaDoor
open Go.RowKit
set_option linter.unusedSimpArgs false
set_option maxRecDepth 20000
def okP (p : List UInt8) : Prop := p.length = 2 ∧ 0 ≤ dgI (p.getD 0 0) ∧ 0 ≤ dgI (p.getD 1 0)
instance (p : List UInt8) : Decidable (okP p) := by unfold okP; infer_instance
def bP (p : List UInt8) : UInt8 := UInt8.ofNat (16 * (dgI (p.getD 0 0)).toNat + (dgI (p.getD 1 0)).toNat)
def rps (ps : List (List UInt8)) : Option (List UInt8) := if ps.length = 8 ∧ ps.all (fun p => decide (okP p)) = true then some (ps.map bP) else none
def partP (ps : List (List UInt8)) (j : Nat) : List UInt8 := (ps.take j).map bP ++ List.replicate (8 - j) 0
theorem partP_len (ps : List (List UInt8)) (j : Nat) (h8 : ps.length = 8) (h : j ≤ 8) : (partP ps j).length = 8 := by simp [partP]; omega
theorem partP_set (ps : List (List UInt8)) (j : Nat) (h8 : ps.length = 8) (h : j < 8) : (bcells (partP ps j)).set j (.int .u8 ((bP (ps[j]'(by omega))).toNat : Int)) = bcells (partP ps (j + 1)) := by
  have hj : j < ps.length := by omega
  have e : partP ps (j + 1) = (partP ps j).set j (bP ps[j]) := by
    unfold partP
    have hl : ((ps.take j).map bP).length = j := by simp; omega
    rw [show 8 - j = (8 - (j + 1)) + 1 by omega, List.replicate_succ, List.take_succ_eq_append_getElem hj, List.map_append, List.set_append_right _ _ (by omega), hl, Nat.sub_self, List.set_cons_zero, List.append_assoc]
    rfl
  rw [e]
  unfold bcells
  rw [List.map_set]
theorem ab_facts (a b : Nat) (ha : a < 16) (hb : b < 16) : IntKind.i64.wrap (16 * (a : Int)) = 16 * (a : Int) ∧ IntKind.i64.wrap (16 * (a : Int) + (b : Int)) = 16 * (a : Int) + (b : Int) ∧ IntKind.u8.wrap (16 * (a : Int) + (b : Int)) = 16 * (a : Int) + (b : Int) ∧ wrap64 (16 * (a : Int)) = 16 * (a : Int) ∧ wrap64 (16 * (a : Int) + (b : Int)) = 16 * (a : Int) + (b : Int) ∧ ¬ (a : Int) < 0 ∧ ¬ (b : Int) < 0 := by
  refine ⟨by rw [IntKind.wrap_i64]; omega, by rw [IntKind.wrap_i64]; omega, ?_, by unfold wrap64; omega, by unfold wrap64; omega, by omega, by omega⟩
  simp [IntKind.wrap, IntKind.signed, IntKind.bits]; omega
theorem bp_val (a b : Nat) (ha : a < 16) (hb : b < 16) : (((UInt8.ofNat (16 * (a : Int).toNat + (b : Int).toNat)).toNat : Nat) : Int) = 16 * (a : Int) + (b : Int) := by
  simp
  omega
section
variable {ops : Array Oper} {op : Oper} {a : Act} {w : World} {K : Act → World → Prop} {Q : Exit → Act → World → Prop} {E : Prop}
theorem stepU (x y : Operand) (ho : op.op = .store 5 x y) (hw : Region.wanted op (yielded ops a.tmps) = true) (b j : Nat) (c : Int) (u : Value) (hc : w.cell? ⟨b, j, none⟩ = some u) (hf : w.frozen? ⟨b, j, none⟩ = false) (hx : a.eval x = .pointer (some ⟨b, j, none⟩)) (hy : a.eval y = .int .u8 c)
    (h : ∀ W, Hid (W = w.setCell ⟨b, j, none⟩ (.int .u8 c)) → K (a.put op.dst undef) W) : if Region.wanted op (yielded ops a.tmps) = true then Oper.wp Tryd.prog op a w K Q else E := by
  rw [if_pos hw]
  have hr : (Instr.storeAt 5 (.pointer (some ⟨b, j, none⟩)) (.int .u8 c)).run Tryd.prog w = .ok () (w.setCell ⟨b, j, none⟩ (.int .u8 c)) := by go_simp
  unfold Oper.wp execOp
  simp only [ho, hx, hy, Sem.run_bind, hr, Result.andThen_ok]
  exact h _ rfl
end
theorem gs5 (w : World) (g j : Nat) (v : Value) : w.grownBy (w.setCell ⟨g, j, none⟩ v) (some g) :=
  ⟨rfl, rfl, rfl, by simp [World.setCell], fun k _ hne => Below.heap_setCell _ _ _ _ (fun e => hne (by rw [e]))⟩
theorem own_text {w : World} {B : Nat} {g n c : Nat} {ps : List (List UInt8)} (o : w.ownsRow B 9 1 (.slice (some ⟨g, 0, none⟩) n c) n (scells ps)) (j : Nat) (x : List UInt8) (h : ps[j]? = some x) : w.cell? ⟨g, j, none⟩ = some (.string (str x)) := by
  have := o.cells (g := g) rfl j _ (scells_at h)
  simpa [Addr.add_lit] using this
theorem cell_heap {W w : World} (h : W.heap = w.heap) (p : Addr) : W.cell? p = w.cell? p := by simp [World.cell?, h]
theorem frozen_heap {W w : World} (h : W.heap = w.heap) (p : Addr) : W.frozen? p = w.frozen? p := by simp [World.frozen?, h]
theorem Row.heap {W w : World} {g t : Nat} {cs : List Value} (hr : Row w g t cs) (h : W.heap = w.heap) : Row W g t cs := by unfold Row at *; rw [h]; exact hr
theorem own_heap {W w : World} {B e s n : Nat} {v : Value} {xs : List Value} (ho : w.ownsRow B e s v n xs) (h : W.heap = w.heap) : W.ownsRow B e s v n xs := by
  obtain ⟨h1, h2⟩ := ho
  refine ⟨h1, ?_⟩
  rw [h]
  exact h2
theorem own_upto {w w' : World} {G B e s n : Nat} {v : Value} {xs : List Value} (ho : w.ownsRow B e s v n xs) (hb : Below G w w') (hlt : ∀ k, v.ownBlock = some k → k < G) : w'.ownsRow B e s v n xs := by
  obtain ⟨h1, h2⟩ := ho
  refine ⟨h1, ?_⟩
  rcases h2 with h2 | ⟨g, cap, cur, rfl, h4, h5, h6⟩
  · exact .inl h2
  · exact .inr ⟨g, cap, cur, rfl, h4, (hb.block g (hlt g rfl)).trans h5, h6⟩
theorem rcut_58 (t : ByteArray) (w : World) (hlim : t.size ≤ 1000000) : Calls Tryd.prog 31 #[.string t, .int .u8 58] w fun e w' => ∃ a c, e = .returned (.slice a (pieces 58 t.data.toList).length c) ∧ w'.ownsRow w.heap.size 9 1 (.slice a (pieces 58 t.data.toList).length c) (pieces 58 t.data.toList).length (scells (pieces 58 t.data.toList)) ∧ Below w.heap.size w w' := by
  have h : Calls Tryd.prog 31 #[.string t, .int .u8 58] w fun e w' => ∃ v, e = .returned v ∧ w'.ownsRow w.heap.size 9 1 v (pieces 58 t.data.toList).length (scells (pieces 58 t.data.toList)) ∧ Below w.heap.size w w' := rcut_any t 58 w hlim
  refine h.mono fun e w' ⟨v, h1, h2, h3⟩ => ?_
  obtain ⟨a, c, rfl⟩ := own_shape2 h2
  exact ⟨a, c, h1, h2, h3⟩
set_option maxHeartbeats 2000000 in
theorem rparseId_any (t : ByteArray) (w : World) (hlim : t.size ≤ 1000000) : Calls Tryd.prog 22 #[.string t] w (Gives w (psV (rps (pieces 58 t.data.toList)))) := by
  have hcu := fun W => rcut_58 t W hlim
  generalize pieces 58 t.data.toList = ps at *
  obtain ⟨n, hn⟩ : ∃ n, n = ps.length := ⟨_, rfl⟩
  rw [← hn] at hcu
  have HN : Hid (n = ps.length) := hn
  clear hn
  have hbz : ∀ W, (Instr.build 39 #[]).run Tryd.prog W = .ok (idV zero8) W := bd_zero
  have m0 : True := trivial
  have HR : Hid (rps ps = if ps.length = 8 ∧ ps.all (fun p => decide (okP p)) = true then some (ps.map bP) else none) := rfl
  generalize rps ps = V at *
  by_cases h8 : n = 8
  · subst h8
    go_enter Tryd.func22, Tryd.ntmps22
    go_wp2_with (first
      | (have k := m0; clear m0; refine alG infoIz (by rfl) rfl ?_; intro gA wA a1 a2 a3 rA)
      | (go_at_call 31; refine (hcu _).mono ?_; rintro e w1 ⟨al, cl, rfl, o1, b1⟩; replace rA := rA.below b1 a2; replace o1 := own_weak o1 a3.size; have q1 : ∀ k, (Value.slice al 8 cl).ownBlock = some k → k < w1.heap.size := fun k hk => (o1.lt k hk).2)
      | (refine alG infoIz (by rfl) rfl ?_; intro gB wB c1 c2 c3 rB; replace rA := rA.below c3 rA.lt; replace o1 := own_below o1 c3; have hb := bt (bt a3 b1) c3; have hAB : gA < gB := Nat.lt_of_lt_of_le (Nat.lt_of_lt_of_le a2 b1.size) c1)
      | (refine stI (.tmp 5) (.tmp 9) (by rfl) rfl gB zero8 rfl _ rfl rfl rfl rB (Below.refl gB wB) (Nat.le_refl _) ?_; intro W4 r4 hb4; refine Hid.out ?_))
    unfold Hid
    have hgA : w.heap.size ≤ gA := a1
    have hgB : w.heap.size ≤ gB := Nat.le_trans hgA (Nat.le_of_lt hAB)
    replace rA := rA.below hb4 hAB
    replace o1 := own_upto o1 hb4 (fun k hk => Nat.lt_of_lt_of_le (q1 k hk) c1)
    replace hb := hb.trans (hb4.mono hgB)
    have hne : gB ≠ gA := Nat.ne_of_gt hAB
    have hP0 : Row W4 gB 39 (bcells (partP ps 0)) := r4
    clear a1 a2 a3 b1 c1 c2 c3 rB hb4 q1 hcu r4 wA wB
    have L8 : Hid (ps.length = 8) := HN.out.symm
    go_wp2
    go_loopw [6] (fun i wr => ∃ (j : Nat), j ≤ 8 ∧ i = .int .i64 j ∧ Hid (∀ p ∈ ps.take j, okP p) ∧ Row wr gA 39 (bcells zero8) ∧ Row wr gB 39 (bcells (partP ps j)) ∧ wr.ownsRow w.heap.size 9 1 (.slice al 8 cl) 8 (scells ps) ∧ Below w.heap.size w wr) (fun i _ => 8 - (intOf i).toNat)
    case atStart => exact ⟨0, Nat.zero_le _, rfl, (fun p hp => by simp at hp), rA, hP0, o1, hb⟩
    case round =>
      clear rA hP0 o1 hb
      rename_i wr
      obtain ⟨j, hj, rfl, hK, rA, rB, o1, hb⟩ := hrel
      by_cases hlt : j < 8
      · have j1 : j < ps.length := by rw [L8.out]; exact hlt
        have v1 := w64j j hj
        obtain ⟨g, rfl⟩ : ∃ g, al = some ⟨g, 0, none⟩ := by
          rcases o1.2 with ⟨e, h0⟩ | ⟨g, cap, cur, e, _⟩
          · cases h0
          · cases e; exact ⟨g, rfl⟩
        have cs : wr.cell? ⟨g, j, none⟩ = some (.string (str ps[j])) := by
          have := o1.cells (g := g) rfl j _ (scells_at (List.getElem?_eq_getElem j1))
          simpa [Addr.add_lit] using this
        have HNo : Hid (¬ okP ps[j] → V = none) := fun h => by
          rw [HR.out, if_neg]
          rintro ⟨_, h2⟩
          exact h (of_decide_eq_true (List.all_eq_true.1 h2 _ (List.getElem_mem j1)))
        have HK2 : Hid (okP ps[j] → ∀ p ∈ ps.take (j + 1), okP p) := fun h p hp => by
          rw [List.take_succ_eq_append_getElem j1] at hp
          rcases List.mem_append.1 hp with hp | hp
          · exact hK.out p hp
          · simp at hp; rw [hp]; exact h
        have HS : Hid ((bcells (partP ps j)).set j (.int .u8 ((bP ps[j]).toNat : Int)) = bcells (partP ps (j + 1))) := partP_set ps j L8.out hlt
        obtain ⟨x, hx⟩ : ∃ x, x = ps[j] := ⟨_, rfl⟩
        have HXJ : Hid (ps[j] = x) := hx.symm
        rw [← hx] at cs HNo HK2 HS
        clear hx
        obtain ⟨sx, hsx⟩ : ∃ s, s = str x := ⟨_, rfl⟩
        have hsl : sx.size = x.length := by rw [hsx, ← len_t]
        have hsd : sx.data.toList = x := by rw [hsx]
        rw [← hsx] at cs
        have HSX : Hid (ps[j]? = some sx.data.toList) := by show _ = _; rw [hsd, List.getElem?_eq_getElem j1, HXJ.out]
        have k0 : (j : Int) < 8 := Int.ofNat_lt.2 hlt
        clear hsx
        by_cases h2 : sx.size = 2
        · have z0 : 0 < sx.size := by rw [h2]; decide
          have z1 : 1 < sx.size := by rw [h2]; decide
          have e0 : x.getD 0 0 = sx[0] := by rw [← hsd]; exact getD_byte sx 0 z0
          have e1 : x.getD 1 0 = sx[1] := by rw [← hsd]; exact getD_byte sx 1 z1
          have HO : Hid (okP x ↔ 0 ≤ dgI sx[0] ∧ 0 ≤ dgI sx[1]) := by
            show _ ↔ _
            unfold okP
            rw [e0, e1, ← hsl, h2]
            simp
          have HB : Hid (bP x = UInt8.ofNat (16 * (dgI sx[0]).toNat + (dgI sx[1]).toNat)) := by
            show _ = _
            unfold bP
            rw [e0, e1]
          have i1 := digit_any sx[0]
          have i2 := digit_any sx[1]
          have b2 : ((sx.size : Int) != 2) = false := by rw [h2]; rfl
          have q1 := dgI_rng sx[0]
          have q2 := dgI_rng sx[1]
          have m2 : True := trivial
          clear e0 e1 hsd hsl
          generalize dgI sx[0] = d0 at *
          generalize dgI sx[1] = d1 at *
          rcases q1 with q1 | ⟨a, ha, rfl⟩
          · have HF : Hid (V = none) := HNo.out (fun h => absurd (HO.out.1 h).1 (by omega))
            clear HNo HK2 HS HO HB q2
            go_wp2_with (first
            | (go_at_call 37; have k := m2; clear m2; refine (i1 _).mono ?_; rintro e wr ⟨rfl, rfl⟩)
            | (go_at_call 37; refine (i2 _).mono ?_; rintro e wr ⟨rfl, rfl⟩)
            | (refine stI (.tmp 2) (.tmp 42) (by rfl) rfl gA zero8 rfl _ rfl rfl rfl rA hb hgA ?_; intro W5 r5 hb5))
            exact bodyPost_ret (retCT rfl _ gA 0 rfl (lvI rfl r5)) rfl ⟨by rw [HF.out]; rfl, hb5⟩
          rcases q2 with q2 | ⟨b, hb16, rfl⟩
          · have HF : Hid (V = none) := HNo.out (fun h => absurd (HO.out.1 h).2 (by omega))
            have na : ¬ (a : Int) < 0 := by omega
            clear HNo HK2 HS HO HB
            go_wp2_with (first
            | (go_at_call 37; have k := m2; clear m2; refine (i1 _).mono ?_; rintro e wr ⟨rfl, rfl⟩)
            | (go_at_call 37; refine (i2 _).mono ?_; rintro e wr ⟨rfl, rfl⟩)
            | (refine stI (.tmp 2) (.tmp 42) (by rfl) rfl gA zero8 rfl _ rfl rfl rfl rA hb hgA ?_; intro W5 r5 hb5))
            exact bodyPost_ret (retCT rfl _ gA 0 rfl (lvI rfl r5)) rfl ⟨by rw [HF.out]; rfl, hb5⟩
          have FF : Hid _ := ab_facts a b ha hb16
          have na := FF.out.2.2.2.2.2.1
          have nb := FF.out.2.2.2.2.2.2
          have hOk : Hid (∀ p ∈ ps.take (j + 1), okP p) := HK2.out (HO.out.2 ⟨Int.natCast_nonneg a, Int.natCast_nonneg b⟩)
          have HS2 : Hid ((bcells (partP ps j)).set j (.int .u8 (16 * (a : Int) + (b : Int))) = bcells (partP ps (j + 1))) := by
            show _ = _
            rw [← HS.out, HB.out, bp_val a b ha hb16]
          have hpl := partP_len ps j L8.out hj
          have hcl : ∃ u, wr.cell? ⟨gB, j, none⟩ = some u := by
            rw [rB.cell j]
            exact ⟨_, List.getElem?_eq_getElem (by rw [bcells_length, hpl]; exact hlt)⟩
          obtain ⟨u, hcl⟩ := hcl
          have hfr := rB.frozen j
          have HC2 : Hid (∀ W : World, W.heap = wr.heap → W.cell? ⟨gB, j, none⟩ = some u ∧ W.frozen? ⟨gB, j, none⟩ = false) := fun W h => ⟨(cell_heap h _).trans hcl, (frozen_heap h _).trans hfr⟩
          clear HNo HK2 HS HO HB hpl ha hb16 hcl hfr v1
          go_wp2_with (first
            | (go_at_call 37; have k := m2; clear m2; refine (i1 _).mono ?_; rintro e wr ⟨rfl, rfl⟩)
            | (go_at_call 37; refine (i2 _).mono ?_; rintro e wr ⟨rfl, rfl⟩))
          obtain ⟨f1, f2, f3, f4, f5, _, _⟩ := FF.out
          clear FF
          refine wp_region_noPanic ?_
          refine wp_region_held_drew (S := fun W => W.cell? ⟨g, j, none⟩ = some (.string sx) ∧ Below w.heap.size w W) (by kernel_rfl) (⟨cs, hb.drew⟩) (fun hHeld => ?_)
          refine take_lit (i := 0) (v := ?_) rfl (by kernel_rfl) (by kernel_rfl) (by kernel_rfl) (fun _ _ _ h => h) (Or.inl ⟨by rfl, ?_⟩) (by assumption) ?_
          rotate_left
          · (intro w hSw; (try dsimp only at hSw); go_simp <;> with_reducible rfl)
          try simp only [Act.put, List.setIfInBounds_toArray, List.set_cons_zero, List.set_cons_succ]
          refine take_lit (i := 1) (v := ?_) rfl (by kernel_rfl) (by kernel_rfl) (by kernel_rfl) (fun _ _ _ h => h) (Or.inl ⟨by rfl, ?_⟩) (by assumption) ?_
          rotate_left
          · (intro w hSw; (try dsimp only at hSw); go_simp <;> with_reducible rfl)
          try simp only [Act.put, List.setIfInBounds_toArray, List.set_cons_zero, List.set_cons_succ]
          refine take_lit (i := 2) (v := ?_) rfl (by kernel_rfl) (by kernel_rfl) (by kernel_rfl) (fun _ _ _ h => h) (Or.inl ⟨by rfl, ?_⟩) (by assumption) ?_
          rotate_left
          · (intro w hSw; (try dsimp only at hSw); go_simp <;> with_reducible rfl)
          try simp only [Act.put, List.setIfInBounds_toArray, List.set_cons_zero, List.set_cons_succ]
          refine take_lit (i := 3) (v := ?_) rfl (by kernel_rfl) (by kernel_rfl) (by kernel_rfl) (fun _ _ _ h => h) (Or.inl ⟨by rfl, ?_⟩) (by assumption) ?_
          rotate_left
          · (intro w hSw; (try dsimp only at hSw); go_simp <;> with_reducible rfl)
          try simp only [Act.put, List.setIfInBounds_toArray, List.set_cons_zero, List.set_cons_succ]
          refine take_lit (i := 4) (v := ?_) rfl (by kernel_rfl) (by kernel_rfl) (by kernel_rfl) (fun _ _ _ h => h) (Or.inl ⟨by rfl, ?_⟩) (by assumption) ?_
          rotate_left
          · (intro w hSw; (try dsimp only at hSw); have hc := hSw.1; go_simp <;> with_reducible rfl)
          try simp only [Act.put, List.setIfInBounds_toArray, List.set_cons_zero, List.set_cons_succ]
          refine take_lit (i := 5) (v := ?_) rfl (by kernel_rfl) (by kernel_rfl) (by kernel_rfl) (fun _ _ _ h => h) (Or.inl ⟨by rfl, ?_⟩) (by assumption) ?_
          rotate_left
          · (intro w hSw; (try dsimp only at hSw); go_simp <;> with_reducible rfl)
          try simp only [Act.put, List.setIfInBounds_toArray, List.set_cons_zero, List.set_cons_succ]
          refine take_lit (i := 8) (v := ?_) rfl (by kernel_rfl) (by kernel_rfl) (by kernel_rfl) (fun _ _ _ h => h) (Or.inl ⟨by rfl, ?_⟩) (by assumption) ?_
          rotate_left
          · (intro w hSw; (try dsimp only at hSw); go_simp <;> with_reducible rfl)
          try simp only [Act.put, List.setIfInBounds_toArray, List.set_cons_zero, List.set_cons_succ]
          refine take_lit (i := 9) (v := ?_) rfl (by kernel_rfl) (by kernel_rfl) (by kernel_rfl) (fun _ _ _ h => h) (Or.inl ⟨by rfl, ?_⟩) (by assumption) ?_
          rotate_left
          · (intro w hSw; (try dsimp only at hSw); go_simp <;> with_reducible rfl)
          try simp only [Act.put, List.setIfInBounds_toArray, List.set_cons_zero, List.set_cons_succ]
          refine take_lit (i := 10) (v := ?_) rfl (by kernel_rfl) (by kernel_rfl) (by kernel_rfl) (fun _ _ _ h => h) (Or.inl ⟨by rfl, ?_⟩) (by assumption) ?_
          rotate_left
          · (intro w hSw; (try dsimp only at hSw); go_simp <;> with_reducible rfl)
          try simp only [Act.put, List.setIfInBounds_toArray, List.set_cons_zero, List.set_cons_succ]
          refine take_lit (i := 11) (v := ?_) rfl (by kernel_rfl) (by kernel_rfl) (by kernel_rfl) (fun _ _ _ h => h) (Or.inl ⟨by rfl, ?_⟩) (by assumption) ?_
          rotate_left
          · (intro w hSw; (try dsimp only at hSw); have hc := hSw.1; go_simp <;> with_reducible rfl)
          try simp only [Act.put, List.setIfInBounds_toArray, List.set_cons_zero, List.set_cons_succ]
          refine take_lit (i := 12) (v := ?_) rfl (by kernel_rfl) (by kernel_rfl) (by kernel_rfl) (fun _ _ _ h => h) (Or.inl ⟨by rfl, ?_⟩) (by assumption) ?_
          rotate_left
          · (intro w hSw; (try dsimp only at hSw); go_simp <;> with_reducible rfl)
          try simp only [Act.put, List.setIfInBounds_toArray, List.set_cons_zero, List.set_cons_succ]
          refine wpAnyH_ready (rs := [6]) (by kernel_rfl) (by simp) ?_
          refine cons_lit rfl (fun K hK => ?_) ?_
          · go_simp
            refine (i1 _).mono ?_
            rintro e w2 ⟨rfl, hw2⟩
            subst hw2
            refine hK.out _ _ ?_ (fun hHeld => ?_)
            · exact hHeld
            clear hK K
            try simp only [Act.put, List.setIfInBounds_toArray, List.set_cons_zero, List.set_cons_succ]
            refine take_lit (i := 7) (v := ?_) rfl (by kernel_rfl) (by kernel_rfl) (by kernel_rfl) (fun _ _ _ h => h) (Or.inl ⟨by rfl, ?_⟩) (by assumption) ?_
            rotate_left
            · (intro w hSw; (try dsimp only at hSw); go_simp <;> with_reducible rfl)
            try simp only [Act.put, List.setIfInBounds_toArray, List.set_cons_zero, List.set_cons_succ]
            refine wpAnyH_ready (rs := [13]) (by kernel_rfl) (by simp) ?_
            refine cons_lit rfl (fun K hK => ?_) ?_
            · go_simp
              refine (i2 _).mono ?_
              rintro e w2 ⟨rfl, hw2⟩
              subst hw2
              refine hK.out _ _ ?_ (fun hHeld => ?_)
              · exact hHeld
              clear hK K
              try simp only [Act.put, List.setIfInBounds_toArray, List.set_cons_zero, List.set_cons_succ]
              refine take_lit (i := 14) (v := ?_) rfl (by kernel_rfl) (by kernel_rfl) (by kernel_rfl) (fun _ _ _ h => h) (Or.inl ⟨by rfl, ?_⟩) (by assumption) ?_
              rotate_left
              · (intro w hSw; (try dsimp only at hSw); go_simp <;> with_reducible rfl)
              try simp only [Act.put, List.setIfInBounds_toArray, List.set_cons_zero, List.set_cons_succ]
              refine take_lit (i := 15) (v := ?_) rfl (by kernel_rfl) (by kernel_rfl) (by kernel_rfl) (fun _ _ _ h => h) (Or.inl ⟨by rfl, ?_⟩) (by assumption) ?_
              rotate_left
              · (intro w hSw; (try dsimp only at hSw); go_simp <;> with_reducible rfl)
              try simp only [Act.put, List.setIfInBounds_toArray, List.set_cons_zero, List.set_cons_succ]
              refine take_lit (i := 16) (v := ?_) rfl (by kernel_rfl) (by kernel_rfl) (by kernel_rfl) (fun _ _ _ h => h) (Or.inl ⟨by rfl, ?_⟩) (by assumption) ?_
              rotate_left
              · (intro w hSw; (try dsimp only at hSw); go_simp <;> with_reducible rfl)
              try simp only [Act.put, List.setIfInBounds_toArray, List.set_cons_zero, List.set_cons_succ]
              refine wpAnyH_ready (rs := [17]) (by kernel_rfl) (by simp) ?_
              refine cons_lit rfl (fun K hK => ?_) ?_
              · skip
                refine stepU (.tmp 59) (.tmp 58) rfl (by kernel_rfl) gB j (16 * (a : Int) + (b : Int)) u (HC2.out _ rfl).1 (HC2.out _ rfl).2 rfl rfl ?_
                intro W9 hW9
                have rB9 : Row W9 gB 39 (bcells (partP ps (j + 1))) := by rw [hW9.out, ← HS2.out]; exact (rB.heap (W := wr.drew) rfl).set j _
                have rA9 : Row W9 gA 39 (bcells zero8) := by rw [hW9.out]; exact (rA.heap (W := wr.drew) rfl).setOther gB j _ hne
                have hg9 : wr.drew.grownBy W9 (some gB) := by rw [hW9.out]; exact gs5 _ gB j _
                have o9 := own_grown (own_heap (W := wr.drew) o1 rfl) hg9 (fun q hq e => own_ne o1 rB (by decide) (e.symm.trans hq.symm))
                have hb9 : Below w.heap.size w W9 := by rw [hW9.out]; exact hHeld.2.setCell (p := ⟨gB, j, none⟩) hgB _
                refine hK.out _ _ ?_ (fun hHeld => ?_)
                · exact ⟨by rw [own_text o9 j _ HSX.out, str_t], hb9⟩
                clear hK K
                try simp only [Act.put, List.setIfInBounds_toArray, List.set_cons_zero, List.set_cons_succ]
                refine wpAnyH_done (by kernel_rfl) ?_ _
                refine NoPanic.normal ?_
                have v1 := w64j j hj
                clear na nb f1 f2 f3 f4 f5 cs HC2 HSX HXJ i1 i2 hK j1 HS2 hbz b2
                go_wp2
                go_roundw
                case rel => exact ⟨j + 1, hlt, rfl, hOk, rA9, rB9, o9, hb9⟩
                case measure => exact meas3 hlt
              exact AllReadyH.nil
            exact AllReadyH.nil
          exact AllReadyH.nil
        · have b2 : ((sx.size : Int) != 2) = true := by rw [bne_iff_ne]; omega
          have HF : Hid (V = none) := HNo.out (fun h => h2 (by rw [hsl]; exact h.1))
          clear HNo HK2 HS hsl hsd h2
          go_wp2_with (refine stI (.tmp 2) (.tmp 42) (by rfl) rfl gA zero8 rfl _ rfl rfl rfl rA hb hgA ?_; intro W5 r5 hb5)
          exact bodyPost_ret (retCT rfl _ gA 0 rfl (lvI rfl r5)) rfl ⟨by rw [HF.out]; rfl, hb5⟩
      · obtain rfl : j = 8 := Nat.le_antisymm hj (Nat.le_of_not_lt hlt)
        have eP : partP ps 8 = ps.map bP := by unfold partP; rw [List.take_of_length_le (by rw [L8.out]; exact Nat.le_refl _)]; simp
        have HF : Hid (V = some (ps.map bP)) := by
          show _ = _
          rw [HR.out, if_pos ⟨L8.out, List.all_eq_true.2 fun p hp => decide_eq_true (hK.out p (by rw [List.take_of_length_le (by rw [L8.out]; exact Nat.le_refl _)]; exact hp))⟩]
        rw [eP] at rB
        have h88 : (ps.map bP).length = 8 := by rw [List.length_map]; exact L8.out
        generalize ps.map bP = p8 at *
        go_wp2_with (first
          | (refine ldI (.tmp 5) (by rfl) rfl _ _ p8 h88 rfl rB.range ?_)
          | (refine stI (.tmp 2) (.tmp 60) (by rfl) rfl gA p8 h88 _ rfl rfl rfl rA hb hgA ?_; intro W5 r5 hb5))
        exact bodyPost_ret (retCT rfl _ gA 0 rfl (lvI h88 r5)) rfl ⟨by rw [HF.out]; rfl, hb5⟩
  · have HF : Hid (V = none) := by show _ = _; rw [HR.out, if_neg]; rintro ⟨h, _⟩; exact h8 (HN.out.trans h)
    have b8 : ((n : Int) != 8) = true := by rw [bne_iff_ne]; intro e; exact h8 (Int.ofNat.inj e)
    clear HR HN h8
    go_enter Tryd.func22, Tryd.ntmps22
    go_wp2_with (first
      | (have k := m0; clear m0; refine alG infoIz (by rfl) rfl ?_; intro gA wA a1 a2 a3 rA)
      | (go_at_call 31; refine (hcu _).mono ?_; rintro e w1 ⟨al, cl, rfl, o1, b1⟩; replace rA := rA.below b1 a2)
      | (refine alG infoIz (by rfl) rfl ?_; intro gB wB c1 c2 c3 rB; replace rA := rA.below c3 rA.lt; have hb := bt (bt a3 b1) c3; have hAB : gA < gB := Nat.lt_of_lt_of_le (Nat.lt_of_lt_of_le a2 b1.size) c1)
      | (refine stI (.tmp 5) (.tmp 9) (by rfl) rfl gB zero8 rfl _ rfl rfl rfl rB (Below.refl gB wB) (Nat.le_refl _) ?_; intro W4 r4 hb4; refine Hid.out ?_))
    unfold Hid
    have hgB : w.heap.size ≤ gB := Nat.le_trans a1 (Nat.le_of_lt hAB)
    replace rA := rA.below hb4 hAB
    replace hb := hb.trans (hb4.mono hgB)
    go_wp2_with (first
      | (refine ldI (.tmp 5) (by rfl) rfl _ _ zero8 rfl rfl r4.range ?_)
      | (refine stI (.tmp 2) (.tmp 13) (by rfl) rfl gA zero8 rfl _ rfl rfl rfl rA hb a1 ?_; intro W5 r5 hb5))
    exact bodyPost_ret (retCT rfl _ gA 0 rfl (lvI rfl r5)) rfl ⟨by rw [HF.out]; rfl, hb5⟩
end Go.Proofs.YtldpocbnkggnnaaDoor
