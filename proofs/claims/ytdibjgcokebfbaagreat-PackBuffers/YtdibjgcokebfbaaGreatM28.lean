/-
  The document's front of every Tlv that may be, and its add.
-/
import Derived.Test.YtdibjgcokebfbaaGreatM27
import Derived.Test.YtdibjgcokebfbaaGreatM17
import Derived.Test.YtdibjgcokebfbaaGreatM16
namespace Go.Proofs.YtdibjgcokebfbaaGreat
open Go.RowKit
set_option linter.unusedSimpArgs false
set_option maxRecDepth 20000
/-- What stands in front of a Tlv. -/
def froP (o : TS) (k : TK) : List PK := if wayB k = true then rtrP o k ++ hopP o k else []
theorem witP_eq (o : TS) (k : TK) : witP o k = froP o k ++ [pieK k] := rfl
theorem rfront_any (p : Nat) (o : TS) (k : Bool) (a : Option Addr) (n c : Nat) (l : List UInt8) (g : Nat) (t : Tl) (w : World) (hO : Opn w p o k a n c l g) (hf : TFit t.key) (hc : chkT t.key = 0) (hfam : wayB t.key = true → famA t.ad = famP t.pr.d) : Calls Tryz.prog 55 #[.pointer (some ⟨p, 0, none⟩), .agg (tcells t).toArray] w (Fronted w ((froP o t.key).flatMap encK) (witS o t.key) (k || wayB t.key)) := by
  cases hw : wayB t.key with
  | false =>
    have e1 : froP o t.key = [] := by unfold froP; rw [hw]; rfl
    have e2 : witS o t.key = o := by unfold witS; rw [hw]; rfl
    rw [e1, e2, Bool.or_false]
    exact rfront_no p o k a n c l g t w hO hf hw
  | true =>
    have e1 : froP o t.key = rtrP o t.key ++ hopP (rtrS o t.key) t.key := by unfold froP; rw [if_pos hw]; rfl
    have e2 : witS o t.key = hopS (rtrS o t.key) t.key := by unfold witS; rw [if_pos hw]
    rw [e1, e2, Bool.or_true]
    exact rfront_way p o k a n c l g t w hO hw hc (hfam hw)
theorem froL_len (o : TS) (k : TK) : ((froP o k).flatMap encK).length ≤ 40 := by
  unfold froP
  split
  · rw [List.flatMap_append, List.length_append]
    have h1 := rtrP_len o k
    have h2 : ((hopP o k).flatMap encK).length ≤ 20 := by
      unfold hopP
      split
      · simp
      · rw [hopK_enc]; have := adrL_len k.ad; simp [inL]; omega
    omega
  · simp
theorem pieL_len {k : TK} (h : TOk k) : (encK (pieK k)).length ≤ 102 := by
  have := bodL_100 h
  unfold encK
  split
  · simp
  · simp [pieK]; omega
section
variable {ops : Array Oper} {rest : List Oper} {op : Oper} {a : Act} {w : World} {Q : Exit → Act → World → Prop}
theorem stSl (x y : Operand) (hw : Region.wanted op (yielded ops a.tmps) = true) (ho : op.op = .store 46 x y) (b c : Nat) {U : TypeId} (cs : List Value) (ad : Option Addr) (n m : Nat) (hx : a.eval x = .pointer (some ⟨b, c, none⟩)) (hy : a.eval y = .slice ad n m) (hr : Row w b U cs) (hc : c < cs.length)
    (h : ∀ W, w.grownBy W (some b) → Row W b U (cs.set c (.slice ad n m)) → wpList Tryz.prog ops Q rest (a.put op.dst undef) W) : wpList Tryz.prog ops Q (op :: rest) a w :=
  wpList_step fun K hK => by
    rw [if_pos hw]
    have c1 : w.cell? ⟨b, c, none⟩ = some cs[c] := by rw [hr.cell]; exact List.getElem?_eq_getElem hc
    have c2 := hr.frozen c
    unfold Oper.wp execOp
    simp only [ho, hx, hy]
    go_simp
    exact hK _ _ (h _ (grownBy_setCell w b c _) (hr.set c _))
theorem stPt (x y : Operand) (hw : Region.wanted op (yielded ops a.tmps) = true) (ho : op.op = .store 80 x y) (b c : Nat) {U : TypeId} (cs : List Value) (ad : Addr) (hx : a.eval x = .pointer (some ⟨b, c, none⟩)) (hy : a.eval y = .pointer (some ad)) (hr : Row w b U cs) (hc : c < cs.length)
    (h : ∀ W, w.grownBy W (some b) → Row W b U (cs.set c (.pointer (some ad))) → wpList Tryz.prog ops Q rest (a.put op.dst undef) W) : wpList Tryz.prog ops Q (op :: rest) a w :=
  wpList_step fun K hK => by
    rw [if_pos hw]
    have c1 : w.cell? ⟨b, c, none⟩ = some cs[c] := by rw [hr.cell]; exact List.getElem?_eq_getElem hc
    have c2 := hr.frozen c
    unfold Oper.wp execOp
    simp only [ho, hx, hy]
    go_simp
    exact hK _ _ (h _ (grownBy_setCell w b c _) (hr.set c _))
end
/-- What add answers. -/
def Added (w : World) (p : Nat) (o : TS) (k : Bool) (l : List UInt8) (t : TK) (mtu : Int) (e : Ending) (w' : World) : Prop :=
  ((((l ++ (witP o t).flatMap encK).length : Int) + 4 ≤ mtu → e = .returned (.bool true) ∧ w.grownBy w' (some p) ∧ ∃ a n c g, Opn w' p (witS o t) (k || wayB t) a n c (l ++ (witP o t).flatMap encK) g ∧ w.heap.size ≤ g ∧ (∀ ad, a = some ad → w.heap.size ≤ ad.block)) ∧
  (mtu < ((l ++ (witP o t).flatMap encK).length : Int) + 4 → e = .returned (.bool false) ∧ Below w.heap.size w w'))
theorem Opn.below {W W' : World} {p : Nat} {o : TS} {k : Bool} {a : Option Addr} {n c : Nat} {l : List UInt8} {g : Nat} (h : Opn W p o k a n c l g) (b : Below W.heap.size W W') : Opn W' p o k a n c l g :=
  ⟨h.row.below b h.row.lt, h.src.below b h.src.lt, h.st.below b h.st.lt, h.no⟩
set_option maxHeartbeats 16000000 in
theorem radd_any (p : Nat) (o : TS) (k : Bool) (a : Option Addr) (n c : Nat) (l : List UInt8) (g : Nat) (t : Tl) (mtu : Int) (w : World) (hO : Opn w p o k a n c l g) (ht : TSrc w t) (hk : TOk t.key) (hc : chkT t.key = 0) (hfam : wayB t.key = true → famA t.ad = famP t.pr.d) (hn : n ≤ 100000) :
    Calls Tryz.prog 26 #[.pointer (some ⟨p, 0, none⟩), .agg (tcells t).toArray, .int .i64 mtu] w (Added w p o k l t.key mtu) := by
  have RT := Row.new w 45 (tcells t)
  have BT := ba w (.cells (tcells t).toArray 45)
  have hnl : n = l.length := hO.src.blen
  have OP := hO.below BT
  have HFt := rfront_any p o k a n c l g t _ OP hk.fit hc hfam
  have HPc : Hid (∀ W, Below w.heap.size w W → Calls Tryz.prog 12 #[.agg (tcells t).toArray] W (LaidN W (encK (pieK t.key)))) := fun W hW => rpiece7_any t W (Src.below ht hW ht.lt) hk hc
  have HW : Hid ((witP o t.key).flatMap encK = (froP o t.key).flatMap encK ++ encK (pieK t.key)) := by
    show _ = _
    rw [witP_eq, List.flatMap_append]
    simp
  have hl1 := froL_len o t.key
  have hl2 := pieL_len hk
  have hN4f : ∀ x y : Nat, (bcells ((froP o t.key).flatMap encK)).length = x * 1 → (bcells (encK (pieK t.key))).length = y * 1 → x + y ≤ 140737488355328 := fun x y h h' => by rw [bcells_length] at h h'; omega
  have hno : (k || wayB t.key) = false → (witS o t.key).r = zeroI := by
    intro h
    rw [Bool.or_eq_false_iff] at h
    unfold witS
    rw [if_neg (by simp [h.2])]
    exact hO.no h.1
  have HE0 : Hid (∀ e w' (N : Nat), N = ((froP o t.key).flatMap encK ++ encK (pieK t.key)).length → (((n : Int) + (N : Int) + 4 ≤ mtu → e = Ending.returned (.bool true) ∧ w.grownBy w' (some p) ∧ ∃ a n c g, Opn w' p (witS o t.key) (k || wayB t.key) a n c (l ++ ((froP o t.key).flatMap encK ++ encK (pieK t.key))) g ∧ w.heap.size ≤ g ∧ (∀ ad, a = some ad → w.heap.size ≤ ad.block)) ∧ (mtu < (n : Int) + (N : Int) + 4 → e = Ending.returned (.bool false) ∧ Below w.heap.size w w')) → Added w p o k l t.key mtu e w') := by
    intro e w' N hN h
    unfold Added
    rw [HW.out]
    have : (((l ++ ((froP o t.key).flatMap encK ++ encK (pieK t.key))).length : Nat) : Int) = (n : Int) + (N : Int) := by rw [List.length_append, ← hN, ← hnl]; omega
    rw [this]
    exact h
  clear HW hc hfam hk ht
  generalize (froP o t.key).flatMap encK = L1 at *
  generalize encK (pieK t.key) = L2 at *
  generalize witS o t.key = O2 at *
  generalize (k || wayB t.key) = K2 at *
  have hp := hO.row.lt
  have HO : Hid (Opn w p o k a n c l g) := hO
  clear hO
  have st0 := True.intro
  go_enter Tryz.func26, Tryz.ntmps26
  go_upto_region 3 with (first
    | (have kk := st3; at_builtin; refine append_src rfl (.tmp 15) (.tmp 17) rfl w.heap.size _ fn (bcells L1) rfl o1 pa pn pc (bcells L2) rfl s4 (bcells_one _) hN4 BT.size ?_; intro v5 w5 o5 g5 _; clear kk st3; rw [← bcells_append] at o5; replace r8 := r8.grown g5 (own_ne o1 r8 (by decide)); replace BT := BT.grown g5 BT.size (fun q hq => (o1.lt q hq).1))
    | (have kk := st2; go_at_call 12; refine (HPc.out _ BT).mono ?_; rintro e w4 ⟨pa, pn, pc, rfl, o4, b4⟩; clear kk st2; have st3 := True.intro; replace o1 := own_bq o1 b4; replace r8 := r8.below b4 r8.lt; replace BT := bt BT b4; obtain ⟨_, _, e4, s4, _⟩ := Src.ofOwn o4; cases e4; have hN4 := hN4f fn pn o1.1 o4.1)
    | (have kk := st2; refine ldT (.tmp 4) (by rfl) rfl w.heap.size t rfl RT ?_)
    | (have kk := st1b; refine stS (.tmp 8) (.tmp 14) (by rfl) rfl g8 O2 zeroO K2 false rfl rfl r8 ?_; intro W3 g3 q3; clear kk st1b; have st2 := True.intro; replace o1 := own_oth o1 r8 g3; replace RT := RT.grown g3 (by simp; omega); replace BT := BT.grown g3 BT.size (fun q hq => by cases hq; omega); replace r8 := q3; clear q3)
    | (have kk := st1; refine alG infoSz (by rfl) rfl ?_; intro g8 W2 l8 l8' b2 r8; clear kk st1; have st1b := True.intro; have hg8 : w.heap.size < g8 := (by have := RT.lt; omega); replace o1 := own_bq o1 b2; replace RT := RT.below b2 RT.lt; replace BT := bt BT b2)
    | (have kk := st0; go_at_call 55; refine HFt.mono ?_; rintro e w1 ⟨fa, fn, fc, rfl, o1, b1⟩; clear kk st0 HFt; have st1 := True.intro; replace o1 := own_le o1 BT.size; replace RT := RT.below b1 RT.lt; replace BT := bt BT b1)
    | (have kk := st0; refine ldT (.tmp 4) (by rfl) rfl w.heap.size t rfl RT ?_))
  obtain ⟨a5, c5, rfl⟩ := own_shape o5
  have hN : fn + pn = (L1 ++ L2).length := by have h := o5.1; rw [bcells_length] at h; omega
  have hN2 : fn + pn ≤ 200 := by rw [hN, List.length_append]; omega
  have O5 := HO.out.below BT
  obtain ⟨_, _, e5, s5, _⟩ := Src.ofOwn o5
  cases e5
  have c0 : w5.cell? ⟨p, 0, none⟩ = some (.slice a n c) := (O5.row.cell 0).trans rfl
  have HB5 : Hid (Below w.heap.size w w5) := BT
  have hbs : w.heap.size ≤ w5.heap.size := BT.size
  have HE := fun e w' => HE0.out e w' (fn + pn) hN
  replace HE : Hid (∀ e w', _ → _) := HE
  clear HE0
  generalize fn + pn = N at *
  clear o1 o4 s4 g5 hN hl1 hl2 hN4f hN4 HPc BT OP RT b1 b2 b4 hnl g3
  by_cases hfit : (n : Int) + (N : Int) + 4 ≤ mtu
  · have hfit' : ¬ mtu < (n : Int) + (N : Int) + 4 := by omega
    have st4 := True.intro
    have z0 := own_row (n := 0) (Row.new w5 5 []) rfl (by decide) (Nat.le_refl _)
    have c0' : (w5.alloc (.cells #[] 5)).cell? ⟨p, 0, none⟩ = some (.slice a n c) := ((O5.row.alloc _).cell 0).trans rfl
    have hNn : 0 + n ≤ 140737488355328 := by omega
    have hNm : n + N ≤ 140737488355328 := by omega
    go_wp2_with (first
      | (have kk := st7; refine stPt (.tmp 43) (.tmp 8) (by rfl) rfl p 1 _ ⟨g8, 0, none⟩ rfl rfl q8 (by simp) ?_; intro W9 g9 q9; clear kk st7)
      | (have kk := st6; refine stSl (.tmp 40) (.tmp 38) (by rfl) rfl p 0 _ a7 _ c7 rfl rfl (O5.row.below b7 O5.row.lt) (by simp) ?_; intro W8 gg8 q8; clear kk st6; have st7 := True.intro)
      | (have kk := st5; at_builtin; refine append_src rfl (.tmp 36) (.tmp 37) rfl w5.heap.size _ n (bcells l) rfl o6 a5 N c5 (bcells (L1 ++ L2)) rfl (s5.below b6 s5.lt) (bcells_one _) hNm b6.size ?_; intro v7 w7 o7 g7 _; clear kk st5; have st6 := True.intro; rw [← bcells_append] at o7; obtain ⟨a7, c7, rfl⟩ := own_shape o7; have b7 : Below w5.heap.size w5 w7 := b6.grown g7 b6.size (fun q hq => (o6.lt q hq).1))
      | (have kk := st4; at_builtin; refine append_src rfl (.tmp 31) (.tmp 35) rfl w5.heap.size _ 0 [] rfl z0 a n c (bcells l) rfl (O5.src.alloc _) (bcells_one _) hNn (by rw [World.size_alloc]; exact Nat.le_succ _) ?_; intro v6 w6 o6 g6 _; clear kk st4; have st5 := True.intro; rw [List.nil_append, Nat.zero_add] at o6; have b6 : Below w5.heap.size w5 w6 := (ba _ _).grown g6 (by rw [World.size_alloc]; exact Nat.le_succ _) (fun q hq => (z0.lt q hq).1)))
    go_ret
    refine HE.out _ _ ⟨fun _ => ⟨rfl, ?_, a7, _, c7, g8, ⟨q9, ?_, ?_, hno⟩, Nat.le_of_lt hg8, ?_⟩, fun h => absurd h (Int.not_lt.2 hfit')⟩
    · exact grownBy_trans (grownBy_trans (grownBy_below (some p) (bt HB5.out b7)) gg8) g9
    · have o8 := own_oth o7 (O5.row.below b7 O5.row.lt) gg8
      have o9 := own_oth o8 q8 g9
      obtain ⟨_, _, e9, s9, _⟩ := Src.ofOwn o9
      cases e9
      exact s9
    · have hne : some g8 ≠ some p := by simp; omega
      exact ((r8.below b7 r8.lt).grown gg8 hne).grown g9 hne
    · intro ad had
      obtain ⟨_, _, e7, _, h7⟩ := Src.ofOwn o7
      cases e7
      exact Nat.le_trans hbs (h7 ad had).1
  · have hfit' : mtu < (n : Int) + (N : Int) + 4 := by omega
    go_wp2_with fail
    go_ret
    exact HE.out _ _ ⟨fun h => absurd h (Int.not_le.2 hfit'), fun _ => ⟨rfl, HB5.out⟩⟩
end Go.Proofs.YtdibjgcokebfbaaGreat

namespace Go.Proofs.YtdibjgcokebfbaaGreat
open Go.RowKit
set_option linter.unusedSimpArgs false
set_option maxRecDepth 20000

set_option maxHeartbeats 4000000 in
theorem rsame_len (t u : Tl) (w : World) (hn : t.sn ≠ u.sn) :
    Calls Tryz.prog 28 #[.agg (tcells t).toArray, .agg (tcells u).toArray] w fun e w' => e = .returned (.bool false) ∧ Below w.heap.size w w' := by
  have T67 : (tcells t)[67]? = some (.slice t.sa t.sn t.sc) := tcells_get t
  have U67 : (tcells u)[67]? = some (.slice u.sa u.sn u.sc) := tcells_get u
  have hn' : ¬ (t.sn : Int) = (u.sn : Int) := by omega
  generalize t.sa = sa at *
  generalize t.sn = sn at *
  generalize t.sc = sc at *
  generalize u.sa = sb at *
  generalize u.sn = sm at *
  generalize u.sc = sd at *
  go_enter Tryz.func28, Tryz.ntmps28
  go_wp2
  go_ret
  exact ⟨rfl, bt (ba _ _) (ba _ _)⟩
set_option maxHeartbeats 100000000 in
theorem rsame_st (t u : Tl) (w : World) (ht : TSrc w t) (hu : TSrc w u) (hn : t.sn ≤ 100000) (he : t.sn = u.sn) :
    Calls Tryz.prog 28 #[.agg (tcells t).toArray, .agg (tcells u).toArray] w fun e w' => e = .returned (.bool (sameB t.key u.key)) ∧ Below w.heap.size w w' := by
  have HE : sameB t.key u.key = (decide (t.st = u.st) && (((t.ty : Int) == (u.ty : Int)) && (((t.nonce : Int) == (u.nonce : Int)) && (((t.intv : Int) == (u.intv : Int)) && (((t.seq : Int) == (u.seq : Int)) && (((t.rx : Int) == (u.rx : Int)) && (((t.met : Int) == (u.met : Int)) && (((t.hops : Int) == (u.hops : Int)) && ((t.uni == u.uni) && ((t.all == u.all) && (decide (t.id.l = u.id.l) && (decide (t.ad.l = u.ad.l) && prqB t.pr u.pr)))))))))))) := by
    show (sameN t.key u.key && ((t.uni == u.uni) && ((t.all == u.all) && (decide (t.id.l = u.id.l) && (decide (t.ad.l = u.ad.l) && (prqB t.pr u.pr && decide (t.st = u.st))))))) = _
    have e : sameN t.key u.key = (((t.ty : Int) == (u.ty : Int)) && (((t.nonce : Int) == (u.nonce : Int)) && (((t.intv : Int) == (u.intv : Int)) && (((t.seq : Int) == (u.seq : Int)) && (((t.rx : Int) == (u.rx : Int)) && (((t.met : Int) == (u.met : Int)) && (((t.hops : Int) == (u.hops : Int))))))))) := rfl
    rw [e]
    generalize decide (t.st = u.st) = bS
    generalize ((t.ty : Int) == (u.ty : Int)) = b0
    generalize ((t.nonce : Int) == (u.nonce : Int)) = b1
    generalize ((t.intv : Int) == (u.intv : Int)) = b2
    generalize ((t.seq : Int) == (u.seq : Int)) = b3
    generalize ((t.rx : Int) == (u.rx : Int)) = b4
    generalize ((t.met : Int) == (u.met : Int)) = b5
    generalize ((t.hops : Int) == (u.hops : Int)) = b6
    generalize (t.uni == u.uni) = b7
    generalize (t.all == u.all) = b8
    generalize decide (t.id.l = u.id.l) = bI
    generalize decide (t.ad.l = u.ad.l) = bA
    generalize prqB t.pr u.pr = bQ
    cases bS
    · simp
    · simp [Bool.and_assoc]
  rw [HE]
  clear HE
  have hs1 : Hid (t.sn = t.st.length ∧ u.sn = u.st.length) := ⟨TSrc.len ht, TSrc.len hu⟩
  have s1 : Src w t.sa t.sn t.sc (wcells t.st) := ht
  have s2 : Src w u.sa u.sn u.sc (wcells u.st) := hu
  have T0 : Hid (∀ (W : World) (g : Nat), Row W g 45 (tcells t) → W.cell? ⟨g, 0, none⟩ = some (.int .u8 (t.ty : Int))) := fun W g r => r.cell 0
  have U0 : Hid (∀ (W : World) (g : Nat), Row W g 45 (tcells u) → W.cell? ⟨g, 0, none⟩ = some (.int .u8 (u.ty : Int))) := fun W g r => r.cell 0
  have T1 : Hid (∀ (W : World) (g : Nat), Row W g 45 (tcells t) → W.cell? ⟨g, 1, none⟩ = some (.int .u16 (t.nonce : Int))) := fun W g r => r.cell 1
  have U1 : Hid (∀ (W : World) (g : Nat), Row W g 45 (tcells u) → W.cell? ⟨g, 1, none⟩ = some (.int .u16 (u.nonce : Int))) := fun W g r => r.cell 1
  have T2 : Hid (∀ (W : World) (g : Nat), Row W g 45 (tcells t) → W.cell? ⟨g, 2, none⟩ = some (.int .u16 (t.intv : Int))) := fun W g r => r.cell 2
  have U2 : Hid (∀ (W : World) (g : Nat), Row W g 45 (tcells u) → W.cell? ⟨g, 2, none⟩ = some (.int .u16 (u.intv : Int))) := fun W g r => r.cell 2
  have T3 : Hid (∀ (W : World) (g : Nat), Row W g 45 (tcells t) → W.cell? ⟨g, 3, none⟩ = some (.int .u16 (t.seq : Int))) := fun W g r => r.cell 3
  have U3 : Hid (∀ (W : World) (g : Nat), Row W g 45 (tcells u) → W.cell? ⟨g, 3, none⟩ = some (.int .u16 (u.seq : Int))) := fun W g r => r.cell 3
  have T4 : Hid (∀ (W : World) (g : Nat), Row W g 45 (tcells t) → W.cell? ⟨g, 4, none⟩ = some (.int .u16 (t.rx : Int))) := fun W g r => r.cell 4
  have U4 : Hid (∀ (W : World) (g : Nat), Row W g 45 (tcells u) → W.cell? ⟨g, 4, none⟩ = some (.int .u16 (u.rx : Int))) := fun W g r => r.cell 4
  have T5 : Hid (∀ (W : World) (g : Nat), Row W g 45 (tcells t) → W.cell? ⟨g, 5, none⟩ = some (.int .u16 (t.met : Int))) := fun W g r => r.cell 5
  have U5 : Hid (∀ (W : World) (g : Nat), Row W g 45 (tcells u) → W.cell? ⟨g, 5, none⟩ = some (.int .u16 (u.met : Int))) := fun W g r => r.cell 5
  have T6 : Hid (∀ (W : World) (g : Nat), Row W g 45 (tcells t) → W.cell? ⟨g, 6, none⟩ = some (.int .u8 (t.hops : Int))) := fun W g r => r.cell 6
  have U6 : Hid (∀ (W : World) (g : Nat), Row W g 45 (tcells u) → W.cell? ⟨g, 6, none⟩ = some (.int .u8 (u.hops : Int))) := fun W g r => r.cell 6
  have T7 : Hid (∀ (W : World) (g : Nat), Row W g 45 (tcells t) → W.cell? ⟨g, 7, none⟩ = some (.bool t.uni)) := fun W g r => r.cell 7
  have U7 : Hid (∀ (W : World) (g : Nat), Row W g 45 (tcells u) → W.cell? ⟨g, 7, none⟩ = some (.bool u.uni)) := fun W g r => r.cell 7
  have T8 : Hid (∀ (W : World) (g : Nat), Row W g 45 (tcells t) → W.cell? ⟨g, 8, none⟩ = some (.bool t.all)) := fun W g r => r.cell 8
  have U8 : Hid (∀ (W : World) (g : Nat), Row W g 45 (tcells u) → W.cell? ⟨g, 8, none⟩ = some (.bool u.all)) := fun W g r => r.cell 8
  have T67 : Hid (∀ (W : World) (g : Nat), Row W g 45 (tcells t) → W.cell? ⟨g, 67, none⟩ = some (.slice t.sa t.sn t.sc)) := fun W g r => r.rSt
  have U67 : Hid (∀ (W : World) (g : Nat), Row W g 45 (tcells u) → W.cell? ⟨g, 67, none⟩ = some (.slice u.sa u.sn u.sc)) := fun W g r => r.rSt
  have X67 : (tcells t)[67]? = some (.slice t.sa t.sn t.sc) := tcells_get t
  have Y67 : (tcells u)[67]? = some (.slice u.sa u.sn u.sc) := tcells_get u
  have eI := fun w => eqI 9998 t.id u.id w
  have eA := fun w => eqA 9998 t.ad u.ad w
  have eQ : ∀ w, (Op.equalIn (9996 + 4) 42 (Value.agg (qcells t.pr).toArray) (Value.agg (qcells u.pr).toArray)).run Tryz.prog w = .ok (prqB t.pr u.pr) w := fun w => eqQ 9996 t.pr u.pr w
  generalize decide (t.id.l = u.id.l) = bI at *
  generalize decide (t.ad.l = u.ad.l) = bA at *
  generalize prqB t.pr u.pr = bQ at *
  generalize (t.ty : Int) = x0 at *
  generalize (u.ty : Int) = y0 at *
  obtain ⟨b0, h0⟩ : ∃ b, (x0 == y0) = b := ⟨_, rfl⟩
  rw [h0]
  generalize (t.nonce : Int) = x1 at *
  generalize (u.nonce : Int) = y1 at *
  obtain ⟨b1, h1⟩ : ∃ b, (x1 == y1) = b := ⟨_, rfl⟩
  rw [h1]
  generalize (t.intv : Int) = x2 at *
  generalize (u.intv : Int) = y2 at *
  obtain ⟨b2, h2⟩ : ∃ b, (x2 == y2) = b := ⟨_, rfl⟩
  rw [h2]
  generalize (t.seq : Int) = x3 at *
  generalize (u.seq : Int) = y3 at *
  obtain ⟨b3, h3⟩ : ∃ b, (x3 == y3) = b := ⟨_, rfl⟩
  rw [h3]
  generalize (t.rx : Int) = x4 at *
  generalize (u.rx : Int) = y4 at *
  obtain ⟨b4, h4⟩ : ∃ b, (x4 == y4) = b := ⟨_, rfl⟩
  rw [h4]
  generalize (t.met : Int) = x5 at *
  generalize (u.met : Int) = y5 at *
  obtain ⟨b5, h5⟩ : ∃ b, (x5 == y5) = b := ⟨_, rfl⟩
  rw [h5]
  generalize (t.hops : Int) = x6 at *
  generalize (u.hops : Int) = y6 at *
  obtain ⟨b6, h6⟩ : ∃ b, (x6 == y6) = b := ⟨_, rfl⟩
  rw [h6]
  generalize t.uni = x7 at *
  generalize u.uni = y7 at *
  obtain ⟨b7, h7⟩ : ∃ b, (x7 == y7) = b := ⟨_, rfl⟩
  rw [h7]
  generalize t.all = x8 at *
  generalize u.all = y8 at *
  obtain ⟨b8, h8⟩ : ∃ b, (x8 == y8) = b := ⟨_, rfl⟩
  rw [h8]
  generalize t.sa = sa at *
  generalize t.sc = sc at *
  generalize u.sa = sb at *
  generalize u.sc = sd at *
  have hs0 : u.sn = t.sn := he.symm
  rw [hs0] at s2 hs1 U67 Y67
  generalize t.sn = sn at *
  generalize t.st = st at *
  generalize u.st = sv at *
  have RT := (Row.new w 45 (tcells t)).alloc (.cells (tcells u).toArray 45)
  have RU := two_newR w (.cells (tcells t).toArray 45) 45 (tcells u)
  have BX := bt (ba w (.cells (tcells t).toArray 45)) (ba _ (.cells (tcells u).toArray 45))
  have HX : Hid (Row ((w.alloc (.cells (tcells t).toArray 45)).alloc (.cells (tcells u).toArray 45)) w.heap.size 45 (tcells t) ∧ Row ((w.alloc (.cells (tcells t).toArray 45)).alloc (.cells (tcells u).toArray 45)) (w.heap.size + 1) 45 (tcells u) ∧ Below w.heap.size w ((w.alloc (.cells (tcells t).toArray 45)).alloc (.cells (tcells u).toArray 45))) := ⟨RT, RU, BX⟩
  clear ht hu RT RU BX he hs0
  go_enter Tryz.func28, Tryz.ntmps28
  go_wp2
  obtain ⟨X, hXX⟩ : ∃ X, X = (w.alloc (.cells (tcells t).toArray 45)).alloc (.cells (tcells u).toArray 45) := ⟨_, rfl⟩
  rw [← hXX] at HX ⊢
  clear hXX X67 Y67
  obtain ⟨RT, RU, BX⟩ := HX.out
  have z1 := RT.lt
  have z2 := RU.lt
  clear HX
  go_loopw [5] (fun i wr => ∃ j : Nat, j ≤ sn ∧ i = .int .i64 j ∧ Hid (st.take j = sv.take j) ∧ Below X.heap.size X wr) (fun i _ => sn - (intOf i).toNat)
  case atStart => exact ⟨0, Nat.zero_le _, rfl, rfl, Below.refl _ _⟩
  case round =>
    obtain ⟨j, hj, rfl, htk, hbl⟩ := hrel
    have rT := RT.below hbl z1
    have rU := RU.below hbl z2
    have bW := bt BX hbl
    have k67 : wr.cell? ⟨w.heap.size, 67, none⟩ = some (.slice sa sn sc) := T67.out _ _ rT
    have l67 : wr.cell? ⟨w.heap.size + 1, 67, none⟩ = some (.slice sb sn sd) := U67.out _ _ rU
    by_cases hlt : j < sn
    · have hjk : j < st.length := by have := hs1.out; omega
      have hjv : j < sv.length := by have := hs1.out; omega
      cases sa with
      | none => exact absurd (s1.bare rfl).1 (by omega)
      | some p =>
        cases sb with
        | none => exact absurd (s2.bare rfl).1 (by omega)
        | some q =>
          have d1 := (s1.below bW s1.lt).wordAt j hjk
          have d2 := (s2.below bW s2.lt).wordAt j hjv
          have HM : Hid (st[j].toNat = sv[j].toNat → st.take (j + 1) = sv.take (j + 1)) := fun h => take_more htk.out hjk hjv h
          have HD : Hid (¬ st[j].toNat = sv[j].toNat → ¬ st = sv) := fun h e => by subst e; exact h rfl
          generalize st[j].toNat = x at *
          generalize sv[j].toNat = y at *
          by_cases hxy : x = y
          · subst hxy
            go_wp2
            go_quiet (fail)
            go_wp2
            go_roundw
            case rel => exact ⟨j + 1, by omega, by go_num, (by first | exact HM.out rfl | exact HM.out trivial), below_drewN hbl _⟩
            case measure => simp [intOf]; omega
          · have hxy' : ¬ (x : Int) = (y : Int) := by omega
            have hxyb : ((x : Int) == (y : Int)) = false := by simp; omega
            go_wp2
            go_quiet (fail)
            go_wp2
            go_ret
            exact ⟨by rw [decide_eq_false (HD.out hxy)]; rfl, below_drewN bW _⟩
    · have HST : Hid (st = sv) := by
        show st = sv
        have h1 := htk.out
        have h2 := hs1.out
        rw [List.take_of_length_le (by omega), List.take_of_length_le (by omega)] at h1
        exact h1
      have i1 := rT.rId2
      have i2 := rU.rId2
      have a1 := rT.rAd
      have a2 := rU.rAd
      have p1 := rT.rPr
      have p2 := rU.rPr
      have m0 := T0.out _ _ rT
      have n0 := U0.out _ _ rU
      have m1 := T1.out _ _ rT
      have n1 := U1.out _ _ rU
      have m2 := T2.out _ _ rT
      have n2 := U2.out _ _ rU
      have m3 := T3.out _ _ rT
      have n3 := U3.out _ _ rU
      have m4 := T4.out _ _ rT
      have n4 := U4.out _ _ rU
      have m5 := T5.out _ _ rT
      have n5 := U5.out _ _ rU
      have m6 := T6.out _ _ rT
      have n6 := U6.out _ _ rU
      have m7 := T7.out _ _ rT
      have n7 := U7.out _ _ rU
      have m8 := T8.out _ _ rT
      have n8 := U8.out _ _ rU
      clear rT rU RT RU s1 s2 T0 U0 T1 U1 T2 U2 T3 U3 T4 U4 T5 U5 T6 U6 T7 U7 T8 U8 T67 U67
      cases b0
      · skip
        go_wp2
        go_ret
        exact ⟨by rw [decide_eq_true HST.out]; rfl, bW⟩
      · skip
        cases b1
        · skip
          go_wp2
          go_ret
          exact ⟨by rw [decide_eq_true HST.out]; rfl, bW⟩
        · skip
          cases b2
          · skip
            go_wp2
            go_ret
            exact ⟨by rw [decide_eq_true HST.out]; rfl, bW⟩
          · skip
            cases b3
            · skip
              go_wp2
              go_ret
              exact ⟨by rw [decide_eq_true HST.out]; rfl, bW⟩
            · skip
              cases b4
              · skip
                go_wp2
                go_ret
                exact ⟨by rw [decide_eq_true HST.out]; rfl, bW⟩
              · skip
                cases b5
                · skip
                  go_wp2
                  go_ret
                  exact ⟨by rw [decide_eq_true HST.out]; rfl, bW⟩
                · skip
                  cases b6
                  · skip
                    go_wp2
                    go_ret
                    exact ⟨by rw [decide_eq_true HST.out]; rfl, bW⟩
                  · skip
                    cases b7
                    · skip
                      go_wp2
                      go_ret
                      exact ⟨by rw [decide_eq_true HST.out]; rfl, bW⟩
                    · skip
                      cases b8
                      · skip
                        go_wp2
                        go_ret
                        exact ⟨by rw [decide_eq_true HST.out]; rfl, bW⟩
                      · skip
                        cases bI
                        · skip
                          go_wp2_with (first
                            | (refine ldI (.tmp 95) (by rfl) rfl _ _ u.id rfl i2 ?_)
                            | (refine ldI (.tmp 93) (by rfl) rfl _ _ t.id rfl i1 ?_))
                          go_ret
                          exact ⟨by rw [decide_eq_true HST.out]; rfl, bW⟩
                        · skip
                          cases bA
                          · skip
                            go_wp2_with (first
                              | (refine ldA (.tmp 102) (by rfl) rfl _ _ u.ad rfl a2 ?_)
                              | (refine ldA (.tmp 100) (by rfl) rfl _ _ t.ad rfl a1 ?_)
                              | (refine ldI (.tmp 95) (by rfl) rfl _ _ u.id rfl i2 ?_)
                              | (refine ldI (.tmp 93) (by rfl) rfl _ _ t.id rfl i1 ?_))
                            go_ret
                            exact ⟨by rw [decide_eq_true HST.out]; rfl, bW⟩
                          · skip
                            go_wp2_with (first
                              | (refine ldQ (.tmp 109) (by rfl) rfl _ _ u.pr rfl p2 ?_)
                              | (refine ldQ (.tmp 107) (by rfl) rfl _ _ t.pr rfl p1 ?_)
                              | (refine ldA (.tmp 102) (by rfl) rfl _ _ u.ad rfl a2 ?_)
                              | (refine ldA (.tmp 100) (by rfl) rfl _ _ t.ad rfl a1 ?_)
                              | (refine ldI (.tmp 95) (by rfl) rfl _ _ u.id rfl i2 ?_)
                              | (refine ldI (.tmp 93) (by rfl) rfl _ _ t.id rfl i1 ?_))
                            go_ret
                            exact ⟨by rw [decide_eq_true HST.out]; rfl, bW⟩
theorem rsame_any (t u : Tl) (w : World) (ht : TSrc w t) (hu : TSrc w u) (hn : t.sn ≤ 100000) :
    Calls Tryz.prog 28 #[.agg (tcells t).toArray, .agg (tcells u).toArray] w fun e w' => e = .returned (.bool (sameB t.key u.key)) ∧ Below w.heap.size w w' := by
  by_cases h : t.sn = u.sn
  · exact rsame_st t u w ht hu hn h
  · have e : sameB t.key u.key = false := by
      have : ¬ t.st = u.st := fun e => h (by rw [TSrc.len ht, TSrc.len hu, e])
      have e1 : (decide (t.key.st = u.key.st)) = false := decide_eq_false this
      unfold sameB
      rw [e1]
      simp
    rw [e]
    exact rsame_len t u w h
end Go.Proofs.YtdibjgcokebfbaaGreat

namespace Go.Proofs.YtdibjgcokebfbaaGreat
open Go.RowKit
set_option linter.unusedSimpArgs false
set_option maxRecDepth 20000

theorem all_more (l : List UInt8) (c : UInt8) (j : Nat) (h : j < l.length) : (l.take (j + 1)).all (· == c) = ((l.take j).all (· == c) && (l[j] == c)) := by
  rw [List.take_succ_eq_append_getElem h, List.all_append]
  simp
theorem all_rep (l : List UInt8) (c : UInt8) : l.all (· == c) = decide (l = List.replicate l.length c) := by
  rw [Bool.eq_iff_iff, decide_eq_true_eq, List.eq_replicate_iff]
  simp
theorem icells_at (i : Id8) (j : Nat) (h : j < i.l.length) : (icells i)[j]? = some (.int .u8 (i.l[j].toNat : Int)) := by
  simp [icells, bcells, h]
set_option maxHeartbeats 4000000 in
theorem special_any (i : Id8) (w : World) : Calls Tryz.prog 30 #[.agg (icells i).toArray] w fun e w' => e = .returned (.tuple #[.bool (decide (i.l = zeroI.l)), .bool (decide (i.l = fullI.l))]) ∧ Below w.heap.size w w' := by
  have hl8 : i.l.length = 8 := i.len
  have EZ : Hid ((i.l.take 8).all (· == 0) = decide (i.l = zeroI.l)) := by
    show _ = _
    rw [List.take_of_length_le (by omega), all_rep, hl8]
    rfl
  have EF : Hid ((i.l.take 8).all (· == 255) = decide (i.l = fullI.l)) := by
    show _ = _
    rw [List.take_of_length_le (by omega), all_rep, hl8]
    rfl
  have RI := Row.new w 38 (icells i)
  have B0 := ba w (.cells (icells i).toArray 38)
  have HL : Hid (i.l.length = 8) := hl8
  clear hl8
  go_enter Tryz.func30, Tryz.ntmps30
  go_wp2
  refine name_world (R := fun W => Code.wp _ _ _ _ W) (P := fun W => Below w.heap.size w W ∧ Row W w.heap.size 38 (icells i)) _ ⟨B0, RI⟩ ?_
  rintro X ⟨hB, hR⟩
  clear RI B0
  go_loopw [4, 5, 6] (fun z f k wr => wr = X ∧ ∃ j : Nat, j ≤ 8 ∧ z = .bool ((i.l.take j).all (· == 0)) ∧ f = .bool ((i.l.take j).all (· == 255)) ∧ k = .int .i64 j) (fun _ _ k _ => 8 - (intOf k).toNat)
  case atStart => exact ⟨rfl, 0, Nat.zero_le _, rfl, rfl, rfl⟩
  case round =>
    obtain ⟨rfl, j, hj, rfl, rfl, rfl⟩ := hrel
    by_cases hlt : j < 8
    · have hlt' : (j : Int) < 8 := by omega
      have hjl : j < i.l.length := by have := HL.out; omega
      have hc : wr.cell? ⟨w.heap.size, j, none⟩ = some (.int .u8 (i.l[j].toNat : Int)) := (hR.cell j).trans (icells_at i j hjl)
      have HZ : Hid ((i.l.take (j + 1)).all (· == 0) = ((i.l.take j).all (· == 0) && ((i.l[j].toNat : Int) == 0))) := by
        show _ = _
        rw [all_more _ _ _ hjl]
        congr 1
        rw [Bool.eq_iff_iff]; simp [← UInt8.toNat_inj]
      have HF : Hid ((i.l.take (j + 1)).all (· == 255) = ((i.l.take j).all (· == 255) && ((i.l[j].toNat : Int) == 255))) := by
        show _ = _
        rw [all_more _ _ _ hjl]
        congr 1
        rw [Bool.eq_iff_iff]; simp [← UInt8.toNat_inj]; omega
      generalize (i.l[j].toNat : Int) = x at *
      generalize (i.l.take j).all (· == 0) = bz at *
      generalize (i.l.take j).all (· == 255) = bf at *
      generalize hz' : (i.l.take (j + 1)).all (· == 0) = cz at *
      generalize hf' : (i.l.take (j + 1)).all (· == 255) = cf at *
      cases bz
      · cases bf
        · go_wp2
          go_roundw
          case rel => exact ⟨trivial, j + 1, by omega, by rw [hz', HZ.out]; rfl, by rw [hf', HF.out]; rfl, by go_num⟩
          case measure => simp [intOf]; omega
        · go_wp2
          go_roundw
          case rel => exact ⟨trivial, j + 1, by omega, by rw [hz', HZ.out]; rfl, by rw [hf', HF.out]; rfl, by go_num⟩
          case measure => simp [intOf]; omega
      · cases bf
        · go_wp2
          go_roundw
          case rel => exact ⟨trivial, j + 1, by omega, by rw [hz', HZ.out]; rfl, by rw [hf', HF.out]; rfl, by go_num⟩
          case measure => simp [intOf]; omega
        · go_wp2
          go_roundw
          case rel => exact ⟨trivial, j + 1, by omega, by rw [hz', HZ.out]; rfl, by rw [hf', HF.out]; rfl, by go_num⟩
          case measure => simp [intOf]; omega
    · have hlt' : ¬ (j : Int) < 8 := by omega
      obtain rfl : j = 8 := by omega
      go_wp2
      go_ret2
      exact ⟨by rw [← EZ.out, ← EF.out]; rfl, hB⟩
end Go.Proofs.YtdibjgcokebfbaaGreat
