/-
  The function live of the statements of layer 7 returns true, whatever the memory, and turns nothing that was there.
-/
import Derived.Test.YtdibjgcokebfbaaGreatM22
import Derived.Test.YtdibjgcokebfbaaGreatM20
namespace Go.Proofs.YtdibjgcokebfbaaGreat
open Go.RowKit
set_option linter.unusedSimpArgs false
set_option maxRecDepth 20000

def l7I : Id8 := ⟨[0, 0, 0, 0, 0, 0, 0, 1], rfl⟩
def l7P (b : UInt8) : Pf := ⟨⟨[b, 0, 0, 0, 0, 0, 0, 0, 0, 0, 0, 0, 0, 0, 0, 0], rfl⟩, 8⟩
def l7T (b : UInt8) : Tl := { zeroT with ty := 8, intv := 100, seq := 1, met := 32, id := l7I, ad := lwS, pr := ⟨l7P b, zeroP⟩ }
def l7B : List UInt8 := [42, 2, 0, 38, 6, 10, 0, 0, 0, 0, 0, 0, 0, 0, 0, 1, 8, 11, 2, 0, 8, 0, 0, 100, 0, 1, 0, 32, 32, 8, 11, 2, 0, 8, 0, 0, 100, 0, 1, 0, 32, 33]
theorem l7_pak : pakL lwS 1000 ([l7T 32, l7T 33].map Tl.key) = ([l7B], 0) := by kernel_rfl
theorem l7_chk : chkT (l7T 32).key = 0 := by kernel_rfl
theorem l7_len : 2 + (bodL (l7T 32).key).length = 13 := by kernel_rfl
theorem l7_parE : parE l7B = 0 := by kernel_rfl
theorem l7_par : parL lwS l7B = [l7T 32, l7T 33].map Tl.key := by kernel_rfl
theorem l7_fit (t : Tl) (h : t ∈ [l7T 32, l7T 33]) : TFit t.key ∧ t.sn ≤ 100000 := by
  simp at h
  rcases h with rfl | rfl <;> exact ⟨⟨by decide, by decide, by decide, by decide, by decide, by decide, by decide⟩, by decide⟩
theorem l7SE : Value.agg #[.int .u8 254, .int .u8 128, .int .u8 0, .int .u8 0, .int .u8 0, .int .u8 0, .int .u8 0, .int .u8 0, .int .u8 0, .int .u8 0, .int .u8 0, .int .u8 0, .int .u8 0, .int .u8 0, .int .u8 0, .int .u8 1] = (Value.agg (acells lwS).toArray) := by kernel_rfl
theorem l7QE : Value.agg #[.int .u8 32, .int .u8 0, .int .u8 0, .int .u8 0, .int .u8 0, .int .u8 0, .int .u8 0, .int .u8 0, .int .u8 0, .int .u8 0, .int .u8 0, .int .u8 0, .int .u8 0, .int .u8 0, .int .u8 0, .int .u8 0, .int .i64 8, .int .u8 0, .int .u8 0, .int .u8 0, .int .u8 0, .int .u8 0, .int .u8 0, .int .u8 0, .int .u8 0, .int .u8 0, .int .u8 0, .int .u8 0, .int .u8 0, .int .u8 0, .int .u8 0, .int .u8 0, .int .u8 0, .int .i64 0] = (Value.agg (qcells (⟨l7P 32, zeroP⟩)).toArray) := by kernel_rfl
theorem l7bd (w : World) : (Instr.build 45 #[(0, .int .u8 8), (2, .int .u16 100), (3, .int .u16 1), (5, .int .u16 32), (9, .agg #[.int .u8 0, .int .u8 0, .int .u8 0, .int .u8 0, .int .u8 0, .int .u8 0, .int .u8 0, .int .u8 1]), (10, (Value.agg (acells lwS).toArray)), (11, (Value.agg (qcells (⟨l7P 32, zeroP⟩)).toArray))]).run Tryz.prog w = .ok (.agg (tcells (l7T 32)).toArray) w := by kernel_rfl
theorem l7set : (tcells (l7T 32)).set 33 (.int .u8 33) = tcells (l7T 33) := by kernel_rfl
theorem l7bs (w : World) : (Instr.buildSlice 24 2 #[(0, .agg (tcells (l7T 32)).toArray), (1, .agg (tcells (l7T 33)).toArray)]).run Tryz.prog w = .ok (.slice (some ⟨w.heap.size, 0, none⟩) 2 2) (w.alloc (.cells (tcs [l7T 32, l7T 33]).toArray 45)) := by kernel_rfl
theorem tlw_new (w : World) (ts : List Tl) (hs : ∀ t ∈ ts, t.sa = none ∧ t.sn = 0 ∧ t.sc = 0 ∧ t.st = []) : TlW (w.alloc (.cells (tcs ts).toArray 45)) (some ⟨w.heap.size, 0, none⟩) ts.length ts := by
  have R := Row.new w 45 (tcs ts)
  refine ⟨rfl, fun _ => ⟨w.heap.size, 0, rfl, R.lt, fun j t ht i v hv => ?_⟩, fun t ht => ?_⟩
  · have hi : i < 68 := by have := (List.getElem?_eq_some_iff.1 hv).1; rwa [tcells_len] at this
    rw [R.cell, Nat.zero_add, tcs_get ts j t ht i hi]
    exact hv
  · obtain ⟨h1, h2, h3, h4⟩ := hs t ht
    unfold TSrc
    rw [h1, h2, h3, h4]
    exact Src.nil _
theorem l7none (t : Tl) (h : t ∈ [l7T 32, l7T 33]) : t.sa = none ∧ t.sn = 0 ∧ t.sc = 0 ∧ t.st = [] := by
  simp at h
  rcases h with rfl | rfl <;> exact ⟨rfl, rfl, rfl, rfl⟩
section
variable {ops : Array Oper} {rest : List Oper} {op : Oper} {a : Act} {w : World} {Q : Exit → Act → World → Prop}
theorem bsL7 (x y : Operand) (hw : Region.wanted op (yielded ops a.tmps) = true) (ho : op.op = .buildSlice 24 2 #[(0, x), (1, y)]) (hx : a.eval x = .agg (tcells (l7T 32)).toArray) (hy : a.eval y = .agg (tcells (l7T 33)).toArray)
    (h : ∀ g W, Below w.heap.size w W → TlW W (some ⟨g, 0, none⟩) 2 [l7T 32, l7T 33] → wpList Tryz.prog ops Q rest (a.put op.dst (.slice (some ⟨g, 0, none⟩) 2 2)) W) : wpList Tryz.prog ops Q (op :: rest) a w :=
  wpList_step fun K hK => by
    rw [if_pos hw]
    unfold Oper.wp execOp
    simp only [ho, List.map_toArray, List.map_cons, List.map_nil, hx, hy, Sem.run_bind, l7bs, Result.andThen_ok, Sem.run_pure]
    exact hK _ _ (h _ _ (ba _ _) (tlw_new w [l7T 32, l7T 33] l7none))
end
theorem l7_pack (W : World) (g : Nat) (hs : TlW W (some ⟨g, 0, none⟩) 2 [l7T 32, l7T 33]) :
    Calls Tryz.prog 7 #[(Value.agg (acells lwS).toArray), .int .i64 1000, .slice (some ⟨g, 0, none⟩) 2 2] W fun e w' => ∃ g' c qa qc, e = .returned (.tuple #[.slice (some ⟨g', 0, none⟩) 1 c, .int .i64 0]) ∧ g' < w'.heap.size ∧ w'.cell? ⟨g', 0, none⟩ = some (.slice qa 42 qc) ∧ Src w' qa 42 qc (bcells l7B) ∧ Below W.heap.size W w' := by
  refine (pack_ok lwS 1000 (some ⟨g, 0, none⟩) 2 2 [l7T 32, l7T 33] W hs l7_fit (by decide) (by decide) (by decide)).mono ?_
  rintro e w' ⟨a, n, c, qs, rfl, hq, hn, hac, hb⟩
  rw [l7_pak] at hq ⊢
  match qs, hq, hn, hac with
  | [q], hq, hn, hac =>
    simp at hq
    subst hn
    obtain ⟨own, bods⟩ := hac
    have hs := own_srcP (bods q (by simp))
    rw [hq] at hs
    have h42 : q.n = 42 := hs.blen
    rw [h42] at hs
    rcases own.2 with ⟨h1, h2⟩ | ⟨g', cap, cur, h1, hB, hh, hr⟩
    · simp at h2
    · injection h1 with h2 h3 h4
      subst h2
      have hc := own.cells rfl 0 (.slice q.a q.n q.c) rfl
      rw [h42] at hc
      exact ⟨g', c, q.a, q.c, rfl, lt_of_block hh, by rw [Addr.add_lit, Nat.zero_add] at hc; exact hc, hs, hb⟩
  | [], hq, _, _ => simp at hq
  | _ :: _ :: _, hq, _, _ => simp at hq
theorem l7_keys : (splL (opB l7B)).1 = [(6, [0, 0, 0, 0, 0, 0, 0, 0, 0, 1]), (8, [2, 0, 8, 0, 0, 100, 0, 1, 0, 32, 32]), (8, [2, 0, 8, 0, 0, 100, 0, 1, 0, 32, 33])] := by kernel_rfl
theorem l7_speaks : Speaks lwS (splL (opB l7B)).1 := by
  rw [l7_keys]
  intro i k hk W P R pa pn pc hp hs
  match i, hk with
  | 0, hk =>
    cases hk
    exact say_6 pa pn pc _ hs (by have := hs.blen; rw [this]; decide) hp
  | 1, hk =>
    cases hk
    exact say_8by pa pn pc _ hs (by decide) hp (fun W g bv h1 h2 => update_by h1 h2 (by decide) (by kernel_rfl) (by kernel_rfl) (by decide) (by kernel_rfl) (by kernel_rfl) (by kernel_rfl) (by kernel_rfl))
  | 2, hk =>
    cases hk
    exact say_8by pa pn pc _ hs (by decide) hp (fun W g bv h1 h2 => update_by h1 h2 (by decide) (by kernel_rfl) (by kernel_rfl) (by decide) (by kernel_rfl) (by kernel_rfl) (by kernel_rfl) (by kernel_rfl))
  | i + 3, hk => simp at hk
theorem l7_parse (W : World) (a : Option Addr) (c : Nat) (hs : Src W a 42 c (bcells l7B)) :
    Calls Tryz.prog 18 #[(Value.agg (acells lwS).toArray), .slice a 42 c] W fun e w' => ∃ a c ts, e = .returned (.tuple #[.slice a 2 c, .int .i64 0]) ∧ TlW w' a 2 ts ∧ Hid (ts.map Tl.key = [l7T 32, l7T 33].map Tl.key) ∧ Below W.heap.size W w' := by
  refine (parse_by lwS a _ c _ W hs (by decide) (by kernel_rfl) l7_speaks).mono ?_
  rintro e w' ⟨a, c, ts, rfl, hk, _, ht, hb⟩
  rw [l7_par] at hk
  rw [l7_parE]
  have hl : ts.length = 2 := by have := congrArg List.length hk; simpa using this
  have htl := ht.tlw
  rw [hl] at htl ⊢
  exact ⟨a, c, ts, rfl, htl, hk, hb⟩
theorem l7_size (W : World) : Calls Tryz.prog 13 #[.agg (tcells (l7T 32)).toArray] W (Gives W (.int .i64 13)) := by
  have := size_any (l7T 32) W (Src.nil _) (by decide) (l7_fit (l7T 32) (by simp)).1
  rw [if_pos l7_chk, l7_len] at this
  exact this
theorem num7 (x : Int) (w : World) : Calls Tryz.prog 10 #[.int .i64 x] w fun e w' => e = .returned (.int .i64 x) ∧ w = w' := by
  go_enter Tryz.func10, Tryz.ntmps10
  go_wp2
  go_ret
  exact ⟨rfl, rfl⟩
theorem l7_bad (W : World) (g : Nat) : Calls Tryz.prog 7 #[(Value.agg (acells lwS).toArray), .int .i64 63, .slice (some ⟨g, 0, none⟩) 1 1] W fun e w' => ∃ a n c, e = .returned (.tuple #[.slice a n c, .int .i64 2]) ∧ Below W.heap.size W w' := by
  refine (pack_bad lwS 63 (some ⟨g, 0, none⟩) 1 1 [] W (.inl (by decide))).mono ?_
  rintro e w' ⟨a, n, c, qs, rfl, _, _, _, hb⟩
  exact ⟨a, n, c, rfl, hb⟩
theorem l7_sames (W : World) (a : Option Addr) (c g : Nat) (ts : List Tl) (h : TlW W a 2 ts) (hk : Hid (ts.map Tl.key = [l7T 32, l7T 33].map Tl.key)) (h2 : TlW W (some ⟨g, 0, none⟩) 2 [l7T 32, l7T 33]) : Calls Tryz.prog 19 #[.slice a 2 c, .slice (some ⟨g, 0, none⟩) 2 2] W fun e w' => e = .returned (.bool true) ∧ Below W.heap.size W w' := by
  refine sames_true a (some ⟨g, 0, none⟩) 2 c 2 ts [l7T 32, l7T 33] W h h2 hk.out (by decide) (fun t ht => ?_)
  have hm : t.key ∈ [l7T 32, l7T 33].map Tl.key := by rw [← hk.out]; exact List.mem_map.2 ⟨t, ht, rfl⟩
  simp at hm
  have e : t.st = t.key.st := rfl
  rcases hm with h | h <;> (rw [e, h]; decide)
end Go.Proofs.YtdibjgcokebfbaaGreat

namespace Go.Proofs.YtdibjgcokebfbaaGreat
open Go.RowKit
set_option linter.unusedSimpArgs false
set_option maxRecDepth 20000

set_option maxHeartbeats 4000000 in
theorem live7_any (w : World) : Calls Tryz.prog 6 #[] w fun e w' => e = .returned (.bool true) ∧ Below w.heap.size w w' := by
  obtain ⟨tAq, hA⟩ : ∃ t, t = l7T 32 := ⟨_, rfl⟩
  obtain ⟨tB, hB⟩ : ∃ t, t = l7T 33 := ⟨_, rfl⟩
  obtain ⟨S, hS⟩ : ∃ t, t = lwS := ⟨_, rfl⟩
  obtain ⟨Q, hQ⟩ : ∃ t : Pr, t = ⟨l7P 32, zeroP⟩ := ⟨_, rfl⟩
  have HPK := l7_pack
  have HPA := l7_parse
  have HSZ := l7_size
  have HBD := l7_bad
  have HSM := l7_sames
  have SE := l7SE
  have QE := l7QE
  have BD := l7bd
  have SET := l7set
  have BS := @bsL7
  rw [← hA, ← hB, ← hS] at HPK
  rw [← hA, ← hB] at HSM BS SET
  rw [← hA, ← hB, ← hS] at HPA
  rw [← hA] at HSZ
  rw [← hS] at HBD SE
  rw [← hQ] at QE
  rw [← hA, ← hS, ← hQ] at BD
  have HC33 : Hid (∀ W g, Row W g 45 (tcells tAq) → (∃ v, W.cell? ⟨g, 33, none⟩ = some v) ∧ W.frozen? ⟨g, 33, none⟩ = false) := fun W g r => ⟨⟨.int .u8 32, (r.cell 33).trans (by rw [hA]; rfl)⟩, r.frozen 33⟩
  have HSET : Hid ((tcells tAq).set 33 (.int .u8 33) = tcells tB) := SET
  have HBDH : Hid (∀ w, (Instr.build 45 #[(0, .int .u8 8), (2, .int .u16 100), (3, .int .u16 1), (5, .int .u16 32), (9, .agg #[.int .u8 0, .int .u8 0, .int .u8 0, .int .u8 0, .int .u8 0, .int .u8 0, .int .u8 0, .int .u8 1]), (10, (Value.agg (acells S).toArray)), (11, (Value.agg (qcells Q).toArray))]).run Tryz.prog w = .ok (.agg (tcells tAq).toArray) w) := BD
  have HBS : Hid (∀ {ops : Array Oper} {rest : List Oper} {op : Oper} {a : Act} {w : World} {Q' : Exit → Act → World → Prop} (x y : Operand) (_ : Region.wanted op (yielded ops a.tmps) = true) (_ : op.op = .buildSlice 24 2 #[(0, x), (1, y)]) (_ : a.eval x = .agg (tcells tAq).toArray) (_ : a.eval y = .agg (tcells tB).toArray)
    (_ : ∀ g W, Below w.heap.size w W → TlW W (some ⟨g, 0, none⟩) 2 [tAq, tB] → wpList Tryz.prog ops Q' rest (a.put op.dst (.slice (some ⟨g, 0, none⟩) 2 2)) W), wpList Tryz.prog ops Q' (op :: rest) a w) := BS
  clear hA hB hS hQ SET BD BS
  have hPK : Hid (∀ (W : World) (g : Nat), TlW W (some ⟨g, 0, none⟩) 2 [tAq, tB] → Calls Tryz.prog 7 #[(Value.agg (acells S).toArray), .int .i64 1000, .slice (some ⟨g, 0, none⟩) 2 2] W fun e w' => ∃ g' c qa qc, e = .returned (.tuple #[.slice (some ⟨g', 0, none⟩) 1 c, .int .i64 0]) ∧ g' < w'.heap.size ∧ w'.cell? ⟨g', 0, none⟩ = some (.slice qa 42 qc) ∧ Src w' qa 42 qc (bcells l7B) ∧ Below W.heap.size W w') := HPK
  have hSZ : Hid (∀ W, Calls Tryz.prog 13 #[.agg (tcells tAq).toArray] W (Gives W (.int .i64 13))) := HSZ
  have hBD : Hid (∀ (W : World) (g : Nat), Calls Tryz.prog 7 #[(Value.agg (acells S).toArray), .int .i64 63, .slice (some ⟨g, 0, none⟩) 1 1] W fun e w' => ∃ a n c, e = .returned (.tuple #[.slice a n c, .int .i64 2]) ∧ Below W.heap.size W w') := HBD
  have hPA : Hid (∀ (W : World) (a : Option Addr) (c : Nat), Src W a 42 c (bcells l7B) → Calls Tryz.prog 18 #[(Value.agg (acells S).toArray), .slice a 42 c] W fun e w' => ∃ a c ts, e = .returned (.tuple #[.slice a 2 c, .int .i64 0]) ∧ TlW w' a 2 ts ∧ Hid (ts.map Tl.key = [tAq, tB].map Tl.key) ∧ Below W.heap.size W w') := HPA
  have hSM : Hid (∀ (W : World) (a : Option Addr) (c g : Nat) (ts : List Tl), TlW W a 2 ts → Hid (ts.map Tl.key = [tAq, tB].map Tl.key) → TlW W (some ⟨g, 0, none⟩) 2 [tAq, tB] → Calls Tryz.prog 19 #[.slice a 2 c, .slice (some ⟨g, 0, none⟩) 2 2] W fun e w' => e = .returned (.bool true) ∧ Below W.heap.size W w') := HSM
  clear HPK HSZ HBD HPA HSM
  go_enter Tryz.func6, Tryz.ntmps6
  go_wp2_with (first
    | (go_at_call 13; have kk := b8; refine (hSZ.out _).mono ?_; rintro e w9 ⟨rfl, b9⟩; have c9 := (b9.cell (p := ⟨gK, 0, none⟩) (Nat.lt_of_lt_of_le hgK (Nat.le_trans d7.size b8.size))).trans c8; have rS9 := rS8.below b9 rS8.lt; have rA9 := rA8.below b9 rA8.lt; have rB9 := rB8.below b9 rB8.lt; have sK9 := sK8.below b9 sK8.lt; have B9 := bt B8 b9)
    | (have kk := b8; refine ldT (.tmp 3) (by rfl) rfl gA tAq rfl rA8 ?_; try simp only [Act.put, List.setIfInBounds_toArray, List.set_cons_zero, List.set_cons_succ])
    | (go_at_call 10; refine (num7 _ _).mono ?_; rintro e wn ⟨rfl, rfl⟩)
    | (go_at_call 7; have kk := d7; refine (hBD.out _ _).mono ?_; rintro e w8 ⟨a8, n8, c8', rfl, b8⟩; have c8 := (b8.cell (p := ⟨gK, 0, none⟩) (Nat.lt_of_lt_of_le hgK d7.size)).trans c7; have rS8 := rS7.below b8 rS7.lt; have rA8 := rA7.below b8 rA7.lt; have rB8 := rB7.below b8 rB7.lt; have sK8 := sK7.below b8 sK7.lt; have B8 := bt B7 b8)
    | (have kk := b6; refine bsT (.tmp 34) (by rfl) rfl tAq rfl ?_; intro g7 w7 hge7 d7 r7; have c7 := (d7.cell (p := ⟨gK, 0, none⟩) hgK).trans cK; have rS7 := rS6.below d7 rS6.lt; have rA7 := rA6.below d7 rA6.lt; have rB7 := rB6.below d7 rB6.lt; have sK7 := sK.below d7 sK.lt; have B7 := bt B6 d7; try simp only [Act.put, List.setIfInBounds_toArray, List.set_cons_zero, List.set_cons_succ])
    | (have kk := b6; refine ldT (.tmp 3) (by rfl) rfl gA tAq rfl rA6 ?_; try simp only [Act.put, List.setIfInBounds_toArray, List.set_cons_zero, List.set_cons_succ])
    | (have kk := b6; refine ldA (.tmp 1) (by rfl) rfl gS 0 S rfl rS6.range ?_; try simp only [Act.put, List.setIfInBounds_toArray, List.set_cons_zero, List.set_cons_succ])
    | (go_at_call 7; have kk := d5; refine (hPK.out _ _ tl5).mono ?_; rintro e w6 ⟨gK, cK', qa, qc, rfl, hgK, cK, sK, b6⟩; have rS6 := rS5.below b6 rS5.lt; have rA6 := rA5.below b6 rA5.lt; have rB6 := rB5.below b6 rB5.lt; have B6 := bt B5 b6)
    | (have kk := rB4; refine HBS.out (.tmp 26) (.tmp 27) (by rfl) rfl rfl rfl ?_; intro g5 w5 d5 tl5; have rS5 := (rS4.setOther gB 33 (.int .u8 33) (fun e => hSB.out e.symm)).below d5 (rS4.setOther gB 33 (.int .u8 33) (fun e => hSB.out e.symm)).lt; have rA5 := (rA4.setOther gB 33 (.int .u8 33) (fun e => hAB.out e.symm)).below d5 (rA4.setOther gB 33 (.int .u8 33) (fun e => hAB.out e.symm)).lt; have rB4' : Row (w4.setCell ⟨gB, 33, none⟩ (.int .u8 33)) gB 45 (tcells tB) := (by have h := q4.set 33 (.int .u8 33); rw [HSET.out] at h; exact h); have rB5 := rB4'.below d5 rB4'.lt; have B5 := bt (B4.setCell (p := ⟨gB, 33, none⟩) hgB.out (.int .u8 33)) d5; clear rB4' rB4 rA4 rS4 B4 q4 c33 f33 kk; try simp only [Act.put, List.setIfInBounds_toArray, List.set_cons_zero, List.set_cons_succ])
    | (have kk := q4; refine ldT (.tmp 4) (by rfl) rfl gB tB rfl (by have h := q4.set 33 (.int .u8 33); rw [HSET.out] at h; exact h) ?_; have rB4 := q4; try simp only [Act.put, List.setIfInBounds_toArray, List.set_cons_zero, List.set_cons_succ])
    | (have kk := q4; refine ldT (.tmp 3) (by rfl) rfl gA tAq rfl (by exact rA4.setOther gB 33 (.int .u8 33) (fun e => hAB.out e.symm)) ?_; try simp only [Act.put, List.setIfInBounds_toArray, List.set_cons_zero, List.set_cons_succ])
    | (have kk := q4; refine ldA (.tmp 1) (by rfl) rfl gS 0 S rfl (by exact (rS4.setOther gB 33 (.int .u8 33) (fun e => hSB.out e.symm)).range) ?_; try simp only [Act.put, List.setIfInBounds_toArray, List.set_cons_zero, List.set_cons_succ])
    | (have kk := q3; refine stT (.tmp 4) (.tmp 19) (by rfl) rfl gB tAq zeroT rfl rfl q3 ?_; intro w4 hg4 q4; obtain ⟨⟨v33, c33⟩, f33⟩ := HC33.out _ _ q4; have B4 := B3.grown hg4 B3.size (fun k hk => by cases hk; exact hgB.out); have rA4 := rA3.grown hg4 (fun e => hAB.out (Option.some.inj e)); have rS4 := rS3.grown hg4 (fun e => hSB.out (Option.some.inj e)); clear hg4 rA3 rS3 B3 q3 kk; try simp only [Act.put, List.setIfInBounds_toArray, List.set_cons_zero, List.set_cons_succ])
    | (have kk := r3; refine alG infoTz (by rfl) rfl ?_; intro gB wB b1 b2 b3 q3; have rA3 := r3.below b3 r3.lt; have rS3 := rS2.below b3 rS2.lt; have hAB : Hid (gA ≠ gB) := Nat.ne_of_lt (Nat.lt_of_lt_of_le r3.lt b1); have hSB : Hid (gS ≠ gB) := Nat.ne_of_lt (Nat.lt_of_lt_of_le rS2.lt b1); have hgB : Hid (w.heap.size ≤ gB) := Nat.le_trans B2.size b1; have B3 := bt B2 b3; clear b1 b2 b3 B2 r3 rS2 kk; try simp only [Act.put, List.setIfInBounds_toArray, List.set_cons_zero, List.set_cons_succ])
    | (have kk := r3; refine ldT (.tmp 3) (by rfl) rfl gA tAq rfl r3 ?_; try simp only [Act.put, List.setIfInBounds_toArray, List.set_cons_zero, List.set_cons_succ])
    | (have kk := rA0; refine stT (.tmp 3) (.tmp 18) (by rfl) rfl gA tAq zeroT rfl rfl rA0 ?_; intro w3 hg3 r3; have rS2 := rS1.grown hg3 (fun e => hSA.out (Option.some.inj e)); have B2 := B1.grown hg3 B1.size (fun k hk => by cases hk; exact hgA.out); clear hg3 rA0 rS1 B1 hSA hgA kk; try simp only [Act.put, List.setIfInBounds_toArray, List.set_cons_zero, List.set_cons_succ])
    | (have kk := rQ1; refine alG infoTz (by rfl) rfl ?_; intro gA wA b1 b2 b3 rA0; have hSA : Hid (gS ≠ gA) := Nat.ne_of_lt (Nat.lt_of_lt_of_le rSq.lt b1); have hgA : Hid (w.heap.size ≤ gA) := Nat.le_trans Bq.size b1; have rS1 := rSq.below b3 rSq.lt; have B1 := bt Bq b3; clear b1 b2 b3 rSq Bq rQ1 kk; try simp only [Act.put, List.setIfInBounds_toArray, List.set_cons_zero, List.set_cons_succ])
    | (have kk := rQ1; refine bdG (v := .agg (tcells tAq).toArray) [(0, .const (.int .u8 8)), (2, .const (.int .u16 100)), (3, .const (.int .u16 1)), (5, .const (.int .u16 32)), (9, .tmp 15), (10, .tmp 16), (11, .tmp 17)] (by rfl) rfl ?rbd ?_; exact HBDH.out _; try simp only [Act.put, List.setIfInBounds_toArray, List.set_cons_zero, List.set_cons_succ])
    | (have kk := rQ1; refine ldQ (.tmp 2) (by rfl) rfl gQ 0 Q rfl rQ1.range ?_; try simp only [Act.put, List.setIfInBounds_toArray, List.set_cons_zero, List.set_cons_succ])
    | (have kk := rQ1; refine ldA (.tmp 1) (by rfl) rfl gS 0 S rfl rSq.range ?_; try simp only [Act.put, List.setIfInBounds_toArray, List.set_cons_zero, List.set_cons_succ])
    | (have kk := rQ0; refine stQ0 (.tmp 2) (.tmp 14) (by rfl) rfl gQ Q (qcells zeroQ) (qcells_len _) rfl (by first | rfl | exact QE) rQ0 ?_; intro wq hgq rQ1; have rSq := rSb.grown hgq (fun e => hSQ.out (Option.some.inj e)); have Bq := Bb.grown hgq Bb.size (fun k hk => by cases hk; exact hgQ.out); clear QE rQ0 rSb Bb hgq hSQ hgQ kk; try simp only [Act.put, List.setIfInBounds_toArray, List.set_cons_zero, List.set_cons_succ])
    | (have kk := rSa; refine alG infoQz (by rfl) rfl ?_; intro gQ wQ b1 b2 b3 rQ0; have hSQ : Hid (gS ≠ gQ) := Nat.ne_of_lt (Nat.lt_of_lt_of_le rSa.lt b1); have hgQ : Hid (w.heap.size ≤ gQ) := Nat.le_trans Ba.size b1; have rSb := rSa.below b3 rSa.lt; have Bb := bt Ba b3; clear b1 b2 b3 rSa Ba kk; try simp only [Act.put, List.setIfInBounds_toArray, List.set_cons_zero, List.set_cons_succ])
    | (refine stA0 (.tmp 1) (.tmp 11) (by rfl) rfl gS S (acells zeroA) (acells_len _) rfl (by first | rfl | exact SE) rS0 ?_; intro wa hga rSa; have Ba := s3.grown hga s3.size (fun k hk => by cases hk; exact s1); clear SE; try simp only [Act.put, List.setIfInBounds_toArray, List.set_cons_zero, List.set_cons_succ])
    | (refine alG infoAz (by rfl) rfl ?_; intro gS wS s1 s2 s3 rS0; try simp only [Act.put, List.setIfInBounds_toArray, List.set_cons_zero, List.set_cons_succ]))
  have rS := rS9.below (bd w9) rS9.lt
  have rA := rA9.below (bd w9) rA9.lt
  have rB := rB9.below (bd w9) rB9.lt
  have sK0 := sK9.below (bd w9) sK9.lt
  have BX := bt B9 (bd w9)
  have cX : w9.drew.cell? ⟨gK, 0, none⟩ = some (.slice qa 42 qc) := c9
  have hgX : gK < w9.drew.heap.size := Nat.lt_of_lt_of_le hgK (Nat.le_trans d7.size (Nat.le_trans b8.size b9.size))
  clear rS9 rA9 rB9 sK9 B9 c9 rS8 rA8 rB8 sK8 B8 c8 rS7 rA7 rB7 sK7 B7 c7 rS6 rA6 rB6 B6 cK sK rS5 rA5 rB5 B5 tl5 hgK d7 b8 b9
  refine wp_region_noPanic ?_
  refine wp_region_held_drew (S := fun W => Row W gS 23 (acells S) ∧ W.cell? ⟨gK, 0, none⟩ = some (.slice qa 42 qc)) (by kernel_rfl) (⟨rS, cX⟩) (fun hHeld => ?_)
  refine tL 0 rfl (yA S (fun W hW => hW.1.range) (by rfl) rfl rfl) ?_
  refine tA 1 ?_
  refine tA 2 ?_
  refine tA 3 ?_ (hv := by intro w hSw; (try dsimp only at hSw); have hm := hSw.2; go_simp <;> with_reducible rfl)
  refine r1 4 fun K hK => ?_
  go_simp
  refine (hPA.out _ _ _ sK0).mono ?_
  rintro e w10 ⟨a10, c10, ts, rfl, tl10, hk10, d10⟩
  have rA10 := rA.below d10 rA.lt
  have rB10 := rB.below d10 rB.lt
  have B10 := bt BX d10
  refine oK hK (by exact ⟨rS.below d10 rS.lt, (d10.cell (p := ⟨gK, 0, none⟩) hgX).trans cX⟩) fun hHeld => ?_
  clear hK K
  refine tA 5 ?_
  refine tA 6 ?_
  refine tA 7 ?_
  refine tA 8 ?_
  refine tA 9 ?_
  refine dN ?_
  refine NoPanic.normal ?_
  clear hHeld
  go_wp2_with (first
    | (go_at_call 19; have kk := d11; refine (hSM.out _ _ _ _ _ (tl10.below d11) hk10 tl11).mono ?_; rintro e w12 ⟨rfl, b12⟩)
    | (refine HBS.out (.tmp 77) (.tmp 78) (by rfl) rfl rfl rfl ?_; intro g11 w11 d11 tl11)
    | (refine ldT (.tmp 4) (by rfl) rfl gB tB rfl rB10 ?_; try simp only [Act.put, List.setIfInBounds_toArray, List.set_cons_zero, List.set_cons_succ])
    | (refine ldT (.tmp 3) (by rfl) rfl gA tAq rfl rA10 ?_)
    | (go_at_call 10; refine (num7 _ _).mono ?_; rintro e wn ⟨rfl, rfl⟩))
  go_ret
  exact ⟨rfl, bt (bt B10 d11) b12⟩
end Go.Proofs.YtdibjgcokebfbaaGreat
