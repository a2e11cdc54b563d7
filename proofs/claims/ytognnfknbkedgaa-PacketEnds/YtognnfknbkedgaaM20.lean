/-
  The contracts of begin and Parse of package packet, for every address and every bytes.
-/
import Derived.Test.YtognnfknbkedgaaM19
import Derived.Test.YtognnfknbkedgaaM07
import Derived.Test.YtognnfknbkedgaaM18
namespace Go.Proofs.Ytognnfknbkedgaa
open Go.RowKit
set_option linter.unusedSimpArgs false
set_option maxRecDepth 20000
variable {bv : Option Addr}

/-- The parser at the beginning of a packet from src. -/
def st0 : St := ⟨none, none, none, none, none⟩
def bgS (src : Ad) : St := setHop st0 (famA src) src
theorem begin_any (src : Ad) (w : World) : Calls Try.prog 32 #[(Value.agg (acells src).toArray)] w fun e w' => ∃ P, e = .returned (.pointer (some ⟨P, 0, none⟩)) ∧ w.heap.size ≤ P ∧ Par w' P none (bgS src) ∧ Below w.heap.size w w' := by
  have HF := fam_any src
  have hf := fam_or src
  unfold bgS
  generalize famA src = f at *
  go_enter Try.func32, Try.ntmps32
  go_wp2
  refine name_world (R := fun W => Code.wp _ _ _ _ W) (P := fun W => Below w.heap.size w W ∧ Par W (w.heap.size + 1) none st0 ∧ Row W w.heap.size 26 (acells src)) _ ⟨bt (ba _ _) (ba _ _), ⟨none, none, none, none, none, two_newR w _ 105 (pcs none none none none none none), trivial, trivial, trivial, trivial, trivial⟩, (Row.new _ _ _).alloc _⟩ ?_
  rintro X ⟨hB, hP, hR⟩
  have P7 := hP.below (bd X)
  have rD := hR.below (bd X) hR.lt
  have bX := bt hB (bd X)
  rcases hf with rfl | rfl
  all_goals
    refine wp_region_noPanic ?_
    refine wp_region_held_drew (S := fun W => Row W w.heap.size 26 (acells src)) (by kernel_rfl) (rD) (fun hHeld => ?_)
    refine tA 0 ?_
    refine tL 1 rfl (yA src (fun W hW => hW.range) (by rfl) rfl rfl) ?_
    refine tA 3 ?_
    refine tA 4 ?_
    refine tA 5 ?_
    refine r1 2 fun K hK => ?_
    go_simp
    refine (HF _).mono ?_
    rintro e w8 ⟨rfl, hb8⟩
    have P8 := P7.below hb8
    have r8 := rD.below hb8 rD.lt
    obtain ⟨_, ⟨v4, c4, _⟩, ⟨v6, c6, _⟩, _⟩ := P8.at
    have f4 := P8.frozen 5
    have f6 := P8.frozen 7
    refine oK hK (by exact r8) fun hHeld => ?_
    clear hK K
    refine tA 6 ?_
    refine r1 7 fun K hK => ?_
    go_simp
    refine oK hK (by exact r8.setOther _ _ _ (by omega)) fun hHeld => ?_
    clear hK K
    refine dN ?_
    refine NoPanic.normal ?_
    go_wp2
    go_ret
    refine ⟨w.heap.size + 1, rfl, by omega, ?_, ((bt bX hb8).setCell (p := ⟨w.heap.size + 1, _, none⟩) (by show _ ≤ w.heap.size + 1; omega) _)⟩
    first | exact P8.setH4 r8 | exact P8.setH6 r8

/-! ### Slices of Tlvs -/
def tcs (ts : List Tl) : List Value := ts.flatMap tcells
theorem tcs_append (ts us : List Tl) : tcs (ts ++ us) = tcs ts ++ tcs us := by simp [tcs]
theorem run_bsT (t : Tl) (w : World) : (Instr.buildSlice 41 1 #[(0, .agg (tcells t).toArray)]).run Try.prog w = .ok (.slice (some ⟨w.heap.size, 0, none⟩) 1 1) (w.alloc (.cells (tcells t).toArray 33)) := by
  obtain ⟨ty, nonce, intv, seq, rx, met, hops, uni, all, ⟨il, hi⟩, ⟨al, ha⟩, ⟨⟨⟨dl, hd⟩, dn⟩, ⟨⟨sl, hs⟩, sn⟩⟩, sa, n, c, st⟩ := t
  match il, hi, al, ha, dl, hd, sl, hs with
  | [i0, i1, i2, i3, i4, i5, i6, i7], _, [b0, b1, b2, b3, b4, b5, b6, b7, b8, b9, b10, b11, b12, b13, b14, b15], _, [c0, c1, c2, c3, c4, c5, c6, c7, c8, c9, c10, c11, c12, c13, c14, c15], _, [d0, d1, d2, d3, d4, d5, d6, d7, d8, d9, d10, d11, d12, d13, d14, d15], _ =>
    show _ = _
    kernel_rfl
section
variable {ops : Array Oper} {rest : List Oper} {op : Oper} {a : Act} {w : World} {Q : Exit → Act → World → Prop}
theorem bsT (x : Operand) (hw : Region.wanted op (yielded ops a.tmps) = true) (ho : op.op = .buildSlice 41 1 #[(0, x)]) (t : Tl) (hx : a.eval x = .agg (tcells t).toArray)
    (h : ∀ g W, w.heap.size ≤ g → Below w.heap.size w W → Row W g 33 (tcells t) → wpList Try.prog ops Q rest (a.put op.dst (.slice (some ⟨g, 0, none⟩) 1 1)) W) : wpList Try.prog ops Q (op :: rest) a w :=
  wpList_step fun K hK => by
    rw [if_pos hw]
    unfold Oper.wp execOp
    simp only [ho, List.map_toArray, List.map_cons, List.map_nil, hx, Sem.run_bind, run_bsT, Result.andThen_ok, Sem.run_pure]
    exact hK _ _ (h _ _ (Nat.le_refl _) (ba _ _) (Row.new _ _ _))
theorem append_tlv {o : Oper} (hgd : o.guard = none) (s x : Operand)
    (ho : o.op = .call { callee := .builtin .append, args := #[s, x], argTypes := #[41, 41] })
    (base : Nat) (v : Value) (n : Nat) (ts : List Tl) (hs : a.eval s = v) (hown : w.ownsRow base 33 68 v n (tcs ts))
    (g : Nat) (t : Tl) (c : Nat) (hx : a.eval x = .slice (some ⟨g, 0, none⟩) 1 c) (hr : Row w g 33 (tcells t))
    (hbytes : n + 1 ≤ 1000000) (hbase : base ≤ w.heap.size)
    (h : ∀ v' w', w'.ownsRow base 33 68 v' (n + 1) (tcs (ts ++ [t])) → w.grownBy w' v.ownBlock → wpList Try.prog ops Q rest (a.put o.dst v') w') : wpList Try.prog ops Q (o :: rest) a w := by
  obtain ⟨i0, hi, hz0, hz1, hz2⟩ := info_parts infoT
  refine wpList_append_own w hgd s x 41 ho base 33 i0 (.agg (tcells zeroT).toArray) 68 112 Try.underlying41 hi hz0 hz1 hz2 rfl (by decide) v n (tcs ts) hs hown ⟨g, 0, none⟩ 1 c (tcells t) hx (by simp [tcells_len]) (fun j u hu => ?_) (tcells_one t) (by unfold maxLen; omega) (by omega) hbase (fun v' w' h1 h2 _ => h v' w' (by rw [tcs_append]; simpa [tcs] using h1) h2)
  rw [Addr.add_mid, Nat.zero_add, hr.cell]
  exact hu
end

/-! ### What pieces tell -/
def tellL : St → List (UInt8 × List UInt8) → List TK
  | _, [] => []
  | s, k :: ks => (if sayB s k.1.toNat k.2 then [sayK s k.1.toNat k.2] else []) ++ tellL (sayS s k.1.toNat k.2) ks
def tellS (s : St) (ks : List (UInt8 × List UInt8)) : St := ks.foldl (fun s k => sayS s k.1.toNat k.2) s
theorem tellL_append (s : St) (ks js : List (UInt8 × List UInt8)) : tellL s (ks ++ js) = tellL s ks ++ tellL (tellS s ks) js := by
  induction ks generalizing s with
  | nil => rfl
  | cons k ks ih =>
    rw [List.cons_append, tellL, ih, tellL, List.append_assoc]
    rfl
theorem tellS_append (s : St) (ks js : List (UInt8 × List UInt8)) : tellS s (ks ++ js) = tellS (tellS s ks) js := by unfold tellS; rw [List.foldl_append]
def parE (p : List UInt8) : Int := if opE p ≠ 0 then opE p else (splL (opB p)).2
def parL (src : Ad) (p : List UInt8) : List TK := tellL (bgS src) (splL (opB p)).1
/-- Tlvs in memory of the call's own. -/
structure Tls (B : Nat) (w : World) (a : Option Addr) (c : Nat) (ts : List Tl) : Prop where
  own : w.ownsRow B 33 68 (.slice a ts.length c) ts.length (tcs ts)
  stms : ∀ t ∈ ts, Stms B w t
/-- What Parse tells. -/
def Parsed (w : World) (src : Ad) (p : List UInt8) (e : Ending) (w' : World) : Prop := ∃ a c ts, e = .returned (.tuple #[.slice a ts.length c, .int .i64 (parE p)]) ∧ ts.map Tl.key = parL src p ∧ ts.length ≤ p.length ∧ Tls w.heap.size w' a c ts ∧ Below w.heap.size w w'
/-- What Parse's rounds keep. -/
structure PrAt (w wr : World) (P : Nat) (src : Ad) (ks : List (UInt8 × List UInt8)) (v : Value) (ts : List Tl) : Prop where
  own : wr.ownsRow w.heap.size 33 68 v ts.length (tcs ts)
  stms : ∀ t ∈ ts, Stms w.heap.size wr t
  keys : ts.map Tl.key = tellL (bgS src) ks
  par : ∃ R, Par wr P R (tellS (bgS src) ks)
  bel : Below w.heap.size w wr
theorem tell_one (s : St) (k : UInt8 × List UInt8) : tellL s [k] = if sayB s k.1.toNat k.2 then [sayK s k.1.toNat k.2] else [] := by
  simp [tellL]
theorem keys_take (ps : List Pc) (j : Nat) (hj : j < ps.length) : keys (ps.take (j + 1)) = keys (ps.take j) ++ [(ps[j].t, ps[j].l)] := by
  unfold keys
  rw [List.take_succ_eq_append_getElem hj, List.map_append]
  rfl
theorem parse_err (src : Ad) (a : Option Addr) (n c : Nat) (l : List UInt8) (w : World) (hs : Src w a n c (bcells l)) (hn : n ≤ 100000) (he : opE l ≠ 0) : Calls Try.prog 14 #[(Value.agg (acells src).toArray), .slice a n c] w (Parsed w src l) := by
  have hO : ∀ W, Src W a n c (bcells l) → Calls Try.prog 30 #[.slice a n c] W fun e w' => ∃ a1 n1 c1 a2 n2 c2, e = .returned (.tuple #[.slice a1 n1 c1, .slice a2 n2 c2, .int .i64 (opE l)]) ∧ Below W.heap.size W w' := fun W h => by
    refine (open_any a n c l W h (by omega)).mono ?_
    rintro e w' ⟨a1, c1, a2, c2, rfl, _, _, hb⟩
    exact ⟨a1, _, c1, a2, _, c2, rfl, hb⟩
  have e1 : parE l = opE l := by unfold parE; rw [if_pos he]
  have e2 : parL src l = [] := by unfold parL opB; rw [if_neg he]; rfl
  unfold Parsed
  rw [e1, e2]
  generalize opE l = z at *
  have he' : (z != 0) = true := by simpa using he
  clear he e1 e2
  go_enter Try.func14, Try.ntmps14
  go_wp2_with (go_at_call 30; refine (hO _ (hs.alloc _)).mono ?_; rintro e w1 ⟨a1, n1, c1, a2, n2, c2, rfl, hb1⟩)
  go_ret2
  exact ⟨none, 0, [], rfl, rfl, by simp, ⟨World.ownsRow_nil _ _ _ _, fun _ h => by cases h⟩, bt (ba _ _) hb1⟩

theorem own_ne' {w : World} {B : Nat} {e : TypeId} {s : Nat} {v : Value} {n : Nat} {xs : List Value} (h : w.ownsRow B e s v n xs) {g : Nat} {t : TypeId} {cs : List Value} (hr : Row w g t cs) (ht : e ≠ t) (e' : v.ownBlock = some g) : False := own_ne h hr (fun x => ht x.symm) e'.symm
theorem Par.own_ne {w : World} {P : Nat} {R : Option Nat} {s : St} {B : Nat} {e : TypeId} {sz : Nat} {v : Value} {n : Nat} {xs : List Value} (h : Par w P R s) (ho : w.ownsRow B e sz v n xs) (he : e ≠ 105) : v.ownBlock ≠ some P := by
  obtain ⟨r, h4, h6, d1, d2, k0, _⟩ := h.ex
  exact fun e' => own_ne' ho k0 he e'
/-- Behind a piece that was said. -/
structure PrIn (w wr : World) (P : Nat) (s : St) (v : Value) (ts : List Tl) : Prop where
  own : wr.ownsRow w.heap.size 33 68 v ts.length (tcs ts)
  stms : ∀ t ∈ ts, Stms w.heap.size wr t
  par : ∃ R, Par wr P R s
  bel : Below w.heap.size w wr
theorem PrAt.said {w wr w4 w6 : World} {P : Nat} {src : Ad} {ks : List (UInt8 × List UInt8)} {v : Value} {ts : List Tl} {s' : St} (H : PrAt w wr P src ks v ts) (hP : w.heap.size ≤ P) (o : Obj) (hg4 : (wr.alloc o).grownBy w4 (some P)) (hp4 : ∃ R, Par w4 P R s') (b46 : Below w4.heap.size w4 w6) : PrIn w w6 P s' v ts := by
  obtain ⟨R, hpar⟩ := H.par
  have p1 := hpar.below (ba wr o)
  obtain ⟨R4, p4⟩ := hp4
  refine ⟨own_keep (own_keep (H.own.alloc o) hg4 (.inl (p1.own_ne (H.own.alloc o) (by decide)))) (grownBy_below none b46) (.inr rfl), fun t ht => ?_, ⟨R4, p4.below b46⟩, ?_⟩
  · have k := H.stms t ht
    unfold Stms at k ⊢
    exact own_keep (own_keep (k.alloc o) hg4 (.inl (p1.own_ne (k.alloc o) (by decide)))) (grownBy_below none b46) (.inr rfl)
  · have k1 := (H.bel.alloc H.bel.size o).grown hg4 (by have := H.bel.size; simp; omega) (fun k hk => by cases hk; exact hP)
    exact k1.trans (b46.mono k1.size)
theorem PrIn.skip {w wr : World} {P : Nat} {src : Ad} {ks : List (UInt8 × List UInt8)} {k : UInt8 × List UInt8} {v : Value} {ts : List Tl} (h : PrIn w wr P (sayS (tellS (bgS src) ks) k.1.toNat k.2) v ts) (hk : ts.map Tl.key = tellL (bgS src) ks) (hb : sayB (tellS (bgS src) ks) k.1.toNat k.2 = false) : PrAt w wr P src (ks ++ [k]) v ts :=
  ⟨h.own, h.stms, by rw [tellL_append, tell_one, hb, hk]; simp, by rw [tellS_append]; exact h.par, h.bel⟩
theorem PrIn.push {w wr w7 : World} {P : Nat} {src : Ad} {ks : List (UInt8 × List UInt8)} {k : UInt8 × List UInt8} {v v' : Value} {ts : List Tl} {tt : Tl} (h : PrIn w wr P (sayS (tellS (bgS src) ks) k.1.toNat k.2) v ts) (hk : ts.map Tl.key = tellL (bgS src) ks) (hb : sayB (tellS (bgS src) ks) k.1.toNat k.2 = true) (htt : tt.key = sayK (tellS (bgS src) ks) k.1.toNat k.2) (hst : Stms w.heap.size wr tt)
    (own7 : w7.ownsRow w.heap.size 33 68 v' (ts.length + 1) (tcs (ts ++ [tt]))) (hg7 : wr.grownBy w7 v.ownBlock) : PrAt w w7 P src (ks ++ [k]) v' (ts ++ [tt]) := by
  refine ⟨by simpa using own7, fun t ht => ?_, by rw [List.map_append, tellL_append, tell_one, hb, hk]; simp [htt], ?_, h.bel.grown hg7 h.bel.size (fun j hj => (h.own.lt j hj).1)⟩
  · have k0 : Stms w.heap.size wr t := by
      rcases List.mem_append.1 ht with h1 | h1
      · exact h.stms t h1
      · obtain rfl : t = tt := by simpa using h1
        exact hst
    unfold Stms at k0 ⊢
    exact own_keep k0 hg7 (own_apart k0 h.own (by decide))
  · obtain ⟨R, p⟩ := h.par
    rw [tellS_append]
    exact ⟨R, p.grown hg7 (fun b t cs hr ht => own_ne h.own hr (by rcases ht with rfl | rfl | rfl <;> decide))⟩
theorem opB_le (l : List UInt8) : (opB l).length ≤ l.length := by
  unfold opB
  split
  · match l with
    | [] => simp
    | [_] => simp
    | [_, _] => simp
    | [_, _, _] => simp
    | _ :: _ :: _ :: _ :: r => simp; omega
  · simp
set_option maxHeartbeats 8000000 in
theorem parse_ok (src : Ad) (a : Option Addr) (n0 c : Nat) (l : List UInt8) (w : World) (hs : Src w a n0 c (bcells l)) (hn : n0 ≤ 100000) (he : opE l = 0) : Calls Try.prog 14 #[(Value.agg (acells src).toArray), .slice a n0 c] w (Parsed w src l) := by
  have hlen := hs.blen
  have hB := opB_le l
  obtain ⟨body, hbody⟩ : ∃ b, opB l = b := ⟨_, rfl⟩
  obtain ⟨N, HN⟩ : ∃ N, Hid (N = body.length) := ⟨_, rfl⟩
  obtain ⟨z, HZ⟩ : ∃ z, Hid (z = (splL body).2) := ⟨_, rfl⟩
  have HE : Hid (parE l = z ∧ parL src l = tellL (bgS src) (splL body).1 ∧ body.length ≤ l.length) := ⟨by unfold parE; rw [he, hbody, HZ.out]; simp, by unfold parL; rw [hbody], by rw [← hbody]; exact hB⟩
  have hO : Hid (∀ W, Src W a n0 c (bcells l) → Calls Try.prog 30 #[.slice a n0 c] W fun e w' => ∃ a1 c1 a2 n2 c2, e = .returned (.tuple #[.slice a1 N c1, .slice a2 n2 c2, .int .i64 0]) ∧ Src w' a1 N c1 (bcells body) ∧ Below W.heap.size W w') := fun W h => by
    refine (open_any a n0 c l W h (by omega)).mono ?_
    rintro e w' ⟨a1, c1, a2, c2, rfl, s1, _, hb⟩
    have s1 := s1.1
    rw [hbody] at s1
    rw [he, hbody, HN.out]
    exact ⟨a1, c1, a2, _, c2, rfl, s1, hb⟩
  have hNl : N ≤ 100000 := by have := HN.out; have := HE.out.2.2; omega
  have HSP : Hid (∀ W a c, Src W a N c (bcells body) → Calls Try.prog 31 #[.slice a N c] W fun e w' => ∃ a c ps n, Hid (n = ps.length) ∧ e = .returned (.tuple #[.slice a n c, .int .i64 z]) ∧ Hid (keys ps = (splL body).1) ∧ Rws w' a n ps ∧ Hid (ps.length ≤ body.length) ∧ n ≤ 100000 ∧ Below W.heap.size W w') := by
    intro W a c h
    refine (split_any a N c body W h (by omega)).mono ?_
    rintro e w' ⟨a, c, ps, rfl, k1, k2, k3, k4, k5⟩
    rw [HZ.out]
    exact ⟨a, c, ps, _, (rfl : _ = _), rfl, k1, own_rws k2 k3, k4, by have := HN.out; omega, k5⟩
  have HBG := begin_any src
  have HLE : Hid (∀ k ∈ (splL body).1, k.2.length ≤ 100000) := fun k hk => by have := spl_le _ _ k hk; have := HN.out; omega
  clear he hbody hB HZ hlen
  go_enter Try.func14, Try.ntmps14
  go_wp2_with (first
    | (go_at_call 32; have kk := hk2; refine (HBG _).mono ?_; rintro e w3 ⟨P, rfl, hP, par3, b3⟩)
    | (have kk := hk2; refine ldA (.tmp 2) (by rfl) rfl w.heap.size 0 src rfl rS.range ?_)
    | (go_at_call 31; refine (HSP.out _ _ _ s1).mono ?_; rintro e w2 ⟨a2, c2, ps, n, hn2, rfl, hk2, rw2, hle2, hnn, b2⟩; have bb2 := bt (bt (ba w (.cells (acells src).toArray 26)) b1) b2; have rS : Row w2 w.heap.size 26 (acells src) := ((Row.new w 26 (acells src)).below b1 (by simp)).below b2 (by have := b1.size; simp at this; omega))
    | (go_at_call 30; refine (hO.out _ (hs.alloc _)).mono ?_; rintro e w1 ⟨a1, c1, at1, nt1, ct1, rfl, s1, b1⟩))
  clear rS kk
  go_loopw [10, 34] (fun v i wr => ∃ (j : Nat) (ts : List Tl), j ≤ n ∧ i = .int .i64 j ∧ ts.length ≤ j ∧ PrAt w2 wr P src (keys (ps.take j)) v ts) (fun _ i _ => n - (intOf i).toNat)
  case atStart => exact ⟨0, [], Nat.zero_le _, rfl, Nat.le_refl _, ⟨World.ownsRow_nil _ _ _ _, (fun _ h => by cases h), rfl, ⟨_, par3⟩, b3⟩⟩
  case round =>
    clear par3 b3
    obtain ⟨j, ts, hj, rfl, htj, H⟩ := hrel
    by_cases hlt : j < n
    · have hjk : j < ps.length := by have := hn2.out; omega
      obtain ⟨gp, op, rfl, c0, c1⟩ := (rw2.below H.bel).at hjk
      have sB := (rw2.body ps[j] (List.getElem_mem hjk)).below H.bel (rw2.body ps[j] (List.getElem_mem hjk)).lt
      have hpl : ps[j].l.length ≤ 100000 := HLE.out (ps[j].t, ps[j].l) (by rw [← hk2.out]; exact List.mem_map.2 ⟨ps[j], List.getElem_mem hjk, rfl⟩)
      have HT := keys_take ps j hjk
      have htl := ps[j].t.toNat_lt
      obtain ⟨S, hS⟩ : ∃ S, tellS (bgS src) (keys (ps.take j)) = S := ⟨_, rfl⟩
      generalize ps[j].t = pt at *
      generalize ps[j].a = pa at *
      generalize ps[j].n = pn at *
      generalize ps[j].c = pc at *
      generalize ps[j].l = pl at *
      obtain ⟨bb, hbb⟩ : ∃ b, sayB S pt.toNat pl = b := ⟨_, rfl⟩
      have HSY : Hid (∀ W R, Par W P R S → Src W pa pn pc (bcells pl) → Calls Try.prog 33 #[.pointer (some ⟨P, 0, none⟩), .agg #[.int .u8 (pt.toNat : Int), .slice pa pn pc]] W (Said W P (sayS S pt.toNat pl) (sayK S pt.toNat pl) bb)) := fun W R h1 h2 => by rw [← hbb]; exact say_any pt.toNat pa pn pc pl h2 hpl h1 htl
      have HBB : Hid (sayB (tellS (bgS src) (keys (ps.take j))) pt.toNat pl = bb) := by show _ = _; rw [hS]; exact hbb
      have HSS : Hid (tellS (bgS src) (keys (ps.take j)) = S) := hS
      have HTT : Hid (keys (ps.take (j + 1)) = keys (ps.take j) ++ [(pt, pl)]) := HT
      obtain ⟨R0, p0⟩ := H.par
      rw [hS] at p0
      have p1 := p0.below (ba wr (.cells #[.int .u8 (pt.toNat : Int), .slice pa pn pc] 72))
      have hbs := H.bel.size
      have hlt2 : ts.length + 1 ≤ 1000000 := by omega
      clear hS hbb HT p0
      cases bb
      · go_wp2_with (first
          | (have kk := hg4; refine stT (.tmp 14) (.tmp 42) (by rfl) rfl gT tt _ rfl rfl rT ?_; intro w5 hg5 r5)
          | (have kk := hg4; refine alG infoTz (by rfl) rfl ?_; intro gT wT t1 t2 t3 rT)
          | (go_at_call 33; refine (HSY.out _ _ p1 (sB.alloc _)).mono ?_; rintro e w4 ⟨⟨tt, rfl, htt, st4⟩, p4, hg4⟩))
        have b45 : Below w4.heap.size w4 w5 := t3.grown hg5 t3.size (fun k hk => by cases hk; exact t1)
        go_roundw
        case rel =>
          have q := H.said hP _ hg4 p4 b45
          rw [← HSS.out] at q
          exact ⟨j + 1, ts, by omega, by go_num, by omega, by rw [HTT.out]; exact q.skip (k := (pt, pl)) H.keys HBB.out⟩
        case measure => simp [intOf]; omega
      · go_wp2_with (first
          | (at_builtin; have kk := rL; refine append_tlv rfl (.tmp 45) (.tmp 47) rfl w2.heap.size u10 ts.length ts rfl q6.own gL tt 1 rfl rL hlt2 q6.bel.size ?_; intro v7 w7 own7 hg7)
          | (have kk := r5; refine bsT (.tmp 46) (by rfl) rfl tt rfl ?_; intro gL w6 l1 l2 rL; have b46 := b45.trans (l2.mono b45.size); have q6 := H.said hP _ hg4 p4 b46)
          | (have kk := r5; refine ldT (.tmp 14) (by rfl) rfl gT tt rfl r5 ?_)
          | (have kk := hg4; refine stT (.tmp 14) (.tmp 42) (by rfl) rfl gT tt _ rfl rfl rT ?_; intro w5 hg5 r5; have b45 : Below w4.heap.size w4 w5 := t3.grown hg5 t3.size (fun k hk => by cases hk; exact t1))
          | (have kk := hg4; refine alG infoTz (by rfl) rfl ?_; intro gT wT t1 t2 t3 rT)
          | (go_at_call 33; refine (HSY.out _ _ p1 (sB.alloc _)).mono ?_; rintro e w4 ⟨⟨tt, rfl, htt, st4⟩, p4, hg4⟩))
        have st6 : Stms w2.heap.size w6 tt := own_keep (own_le st4 (by simp; omega)) (grownBy_below none b46) (.inr rfl)
        rw [← HSS.out] at q6 htt
        have q7 := q6.push (k := (pt, pl)) H.keys HBB.out (htt (by first | rfl | trivial)) st6 own7 hg7
        go_roundw
        case rel => exact ⟨j + 1, ts ++ [tt], by omega, by go_num, by simp; omega, by rw [HTT.out]; exact q7⟩
        case measure => simp [intOf]; omega
    · obtain rfl : n = j := by omega
      have hps : ps.take n = ps := List.take_of_length_le (by have := hn2.out; omega)
      rw [hps, hk2.out] at H
      go_wp2
      go_ret2
      obtain ⟨aF, cF, rfl⟩ := own_shape2 H.own
      obtain ⟨e1, e2, e3⟩ := HE.out
      refine ⟨aF, cF, ts, by rw [e1]; rfl, by rw [e2]; exact H.keys, by have := hn2.out; have := hle2.out; omega, ⟨own_le H.own bb2.size, fun t ht => own_le (H.stms t ht) bb2.size⟩, bb2.trans (H.bel.mono bb2.size)⟩
theorem parse_any (src : Ad) (a : Option Addr) (n c : Nat) (l : List UInt8) (w : World) (hs : Src w a n c (bcells l)) (hn : n ≤ 100000) : Calls Try.prog 14 #[(Value.agg (acells src).toArray), .slice a n c] w (Parsed w src l) := by
  by_cases he : opE l = 0
  · exact parse_ok src a n c l w hs hn he
  · exact parse_err src a n c l w hs hn he
end Go.Proofs.Ytognnfknbkedgaa

namespace Go.Proofs.Ytognnfknbkedgaa
open Go.RowKit
set_option linter.unusedSimpArgs false
set_option maxRecDepth 20000

theorem tcs_get (ts : List Tl) (j : Nat) (t : Tl) (h : ts[j]? = some t) (k : Nat) (hk : k < 68) : (tcs ts)[j * 68 + k]? = (tcells t)[k]? := by
  induction ts generalizing j with
  | nil => simp at h
  | cons q ps ih =>
    have e : tcs (q :: ps) = tcells q ++ tcs ps := by simp [tcs]
    rw [e]
    cases j with
    | zero =>
      simp at h
      subst h
      rw [List.getElem?_append_left (by rw [tcells_len]; omega)]
      simp
    | succ j =>
      rw [List.getElem?_append_right (by rw [tcells_len]; omega)]
      have e2 : (j + 1) * 68 + k - (tcells q).length = j * 68 + k := by rw [tcells_len]; omega
      rw [e2]
      exact ih j (by simpa using h)
/-- A slice of Tlvs. -/
structure TlW (w : World) (a : Option Addr) (n : Nat) (ts : List Tl) : Prop where
  len : ts.length = n
  place : ts ≠ [] → ∃ g o, a = some ⟨g, o, none⟩ ∧ g < w.heap.size ∧ ∀ j t, ts[j]? = some t → w.rangeAt g (o + j * 68) (tcells t)
  stms : ∀ t ∈ ts, TSrc w t
theorem TlW.below {w w' : World} {a : Option Addr} {n : Nat} {ts : List Tl} (h : TlW w a n ts) (hb : Below w.heap.size w w') : TlW w' a n ts :=
  ⟨h.len, fun hne => by
    obtain ⟨g, o, e, hg, hr⟩ := h.place hne
    exact ⟨g, o, e, Nat.lt_of_lt_of_le hg hb.size, fun j p hp i v hv => (hb.cell (p := ⟨g, o + j * 68 + i, none⟩) hg).trans (hr j p hp i v hv)⟩, fun p hp => Src.below (h.stms p hp) hb (Src.lt (h.stms p hp))⟩
theorem own_src77 {w : World} {B : Nat} {a : Option Addr} {n c : Nat} {xs : List Value} (h : w.ownsRow B 63 1 (.slice a n c) n xs) : Src w a n c xs := by
  rcases h.2 with ⟨h1, h2⟩ | ⟨g, cap, cur, h1, hb, hh, hr⟩
  · cases h1
    have : xs = [] := List.eq_nil_of_length_eq_zero (by simpa using h.1)
    subst this
    exact Src.nil w
  · cases h1
    refine ⟨by simpa using h.1, (fun h => by cases h), fun ad had j u hu => ?_⟩
    cases had
    exact h.cells rfl j u hu
theorem Tls.tlw {B : Nat} {w : World} {a : Option Addr} {c : Nat} {ts : List Tl} (h : Tls B w a c ts) : TlW w a ts.length ts := by
  refine ⟨rfl, fun hne => ?_, fun t ht => own_src77 (h.stms t ht)⟩
  rcases h.own.2 with ⟨_, h2⟩ | ⟨g, cap, cur, hv, _, hh, _, _, _, _⟩
  · exact absurd (List.eq_nil_of_length_eq_zero h2) hne
  · cases hv
    refine ⟨g, 0, rfl, lt_of_block hh, fun j p hp k u hu => ?_⟩
    have hk : k < 68 := by have := (List.getElem?_eq_some_iff.1 hu).1; rwa [tcells_len] at this
    have := h.own.cells rfl (j * 68 + k) u (by rw [tcs_get ts j p hp k hk]; exact hu)
    rw [Addr.add_mid] at this
    rw [Nat.add_assoc]
    exact this
theorem TlW.at {w : World} {a : Option Addr} {n : Nat} {ts : List Tl} (h : TlW w a n ts) {j : Nat} (hj : j < ts.length) : ∃ g o, a = some ⟨g, o, none⟩ ∧ g < w.heap.size ∧ w.rangeAt g (o + j * 68) (tcells ts[j]) := by
  obtain ⟨g, o, e, hl, hr⟩ := h.place (by rintro rfl; simp at hj)
  exact ⟨g, o, e, hl, hr j ts[j] (List.getElem?_eq_getElem hj)⟩
theorem TlW.take {w : World} {a : Option Addr} {n : Nat} {ts : List Tl} (h : TlW w a n ts) (k : Nat) (hk : k ≤ n) : TlW w a k (ts.take k) := by
  refine ⟨by rw [List.length_take, h.len]; omega, fun hne => ?_, fun t ht => h.stms t (List.mem_of_mem_take ht)⟩
  obtain ⟨g, o, e, hl, hr⟩ := h.place (by rintro rfl; simp at hne)
  exact ⟨g, o, e, hl, fun j t ht => hr j t (take_get ht)⟩
section
variable {ops : Array Oper} {op : Oper} {a : Act} {S : World → Prop}
theorem yTm {b o : Nat} {x : Operand} (t : Tl) (hS : ∀ w, S w → w.rangeAt b o (tcells t)) (hw : Region.wanted op (yielded ops a.tmps) = true) (ho : op.op = .load 33 x) (hx : a.eval x = .pointer (some ⟨b, o, none⟩)) : YieldsIf Try.prog ops S op (.agg (tcells t).toArray) a :=
  yieldsIf_load_mid hw _ x ho b o hx (tcells t) _ hS Try.underlying33 rfl (by rw [infoTs, tcells_len])
end
theorem range_below {w w' : World} {b o : Nat} {cs : List Value} (h : w.rangeAt b o cs) (hl : b < w.heap.size) (hb : Below w.heap.size w w') : w'.rangeAt b o cs := rangeAt_below h hb hl

theorem sames_true (a1 a2 : Option Addr) (n c1 c2 : Nat) (ts us : List Tl) (w : World) (h1 : TlW w a1 n ts) (h2 : TlW w a2 n us) (hk : ts.map Tl.key = us.map Tl.key) (hn : n ≤ 100000) (hs : ∀ t ∈ ts, t.st.length ≤ 100000) :
    Calls Try.prog 15 #[.slice a1 n c1, .slice a2 n c2] w fun e w' => e = .returned (.bool true) ∧ Below w.heap.size w w' := by
  have HN : Hid (ts.length = n ∧ us.length = n) := ⟨h1.len, h2.len⟩
  have HK : Hid (ts.map Tl.key = us.map Tl.key) := hk
  clear hk
  go_enter Try.func15, Try.ntmps15
  go_wp2
  go_loopw [5] (fun i wr => ∃ j : Nat, j ≤ n ∧ i = .int .i64 j ∧ Below w.heap.size w wr) (fun i _ => n - (intOf i).toNat)
  case atStart => exact ⟨0, Nat.zero_le _, rfl, Below.refl _ _⟩
  case round =>
    obtain ⟨j, hj, rfl, hbl⟩ := hrel
    by_cases hlt : j < n
    · have j1 : j < ts.length := by have := HN.out.1; omega
      have j2 : j < us.length := by have := HN.out.2; omega
      have w1 := h1.below hbl
      have w2 := h2.below hbl
      obtain ⟨g1, o1, rfl, l1, rq1⟩ := w1.at j1
      obtain ⟨g2, o2, rfl, l2, r2⟩ := w2.at j2
      have hkk : ts[j].key = us[j].key := by
        have e := congrArg (fun l => l[j]?) HK.out
        simpa [j1, j2] using e
      have t1 := w1.stms ts[j] (List.getElem_mem j1)
      have t2 := w2.stms us[j] (List.getElem_mem j2)
      have hst := hs ts[j] (List.getElem_mem j1)
      have hsn : ts[j].sn ≤ 100000 := by have := TSrc.len t1; omega
      have HS : Hid (∀ W, Below wr.heap.size wr W → Calls Try.prog 13 #[.agg (tcells ts[j]).toArray, .agg (tcells us[j]).toArray] W fun e w' => e = .returned (.bool true) ∧ Below W.heap.size W w') := fun W hW => rsame_true ts[j] us[j] W (Src.below t1 hW (Src.lt t1)) (Src.below t2 hW (Src.lt t2)) hkk hsn
      generalize ts[j] = t at *
      generalize us[j] = u at *
      clear t1 t2 hst hsn hkk
      go_wp2
      have r1d := range_below rq1 l1 (bd wr)
      have r2d := range_below r2 l2 (bd wr)
      refine wp_region_noPanic ?_
      refine wp_region_held_drew (S := fun W => W.rangeAt g1 (o1 + j * 68) (tcells t) ∧ W.rangeAt g2 (o2 + j * 68) (tcells u)) (by kernel_rfl) (⟨r1d, r2d⟩) (fun hHeld => ?_)
      refine tA 0 ?_
      refine tA 1 ?_
      refine tA 2 ?_
      refine tL 3 rfl (yTm t (fun W hW => hW.1) (by rfl) rfl rfl) ?_
      refine tA 4 ?_
      refine tA 5 ?_
      refine tA 6 ?_
      refine tL 7 rfl (yTm u (fun W hW => hW.2) (by rfl) rfl rfl) ?_
      refine r1 8 fun K hK => ?_
      go_simp
      refine (HS.out _ (bd wr)).mono ?_
      rintro e w5 ⟨rfl, hb5⟩
      have bW := hbl.trans ((bt (bd wr) hb5).mono hbl.size)
      refine oK hK (by exact ⟨range_below r1d l1 hb5, range_below r2d l2 hb5⟩) fun hHeld => ?_
      clear hK K
      refine tA 9 ?_
      refine dN ?_
      refine NoPanic.normal ?_
      go_wp2
      go_roundw
      case rel => exact ⟨j + 1, by omega, by go_num, bW⟩
      case measure => simp [intOf]; omega
    · go_wp2
      go_ret
      exact ⟨rfl, hbl⟩
end Go.Proofs.Ytognnfknbkedgaa

namespace Go.Proofs.Ytognnfknbkedgaa
open Go.RowKit
set_option linter.unusedSimpArgs false
set_option maxRecDepth 20000

theorem run_ap_str (w : World) (ty : TypeId) (b : Addr) (olds : List Value) (hlo : olds.length = 4) (holds : ∀ j v, olds[j]? = some v → w.cell? (b.add j) = some v) (s : ByteArray) (h0 : 0 < s.size) (hs : s.size ≤ 1000000) :
    (Builtin.append_ #[40, 9] ty #[.slice (some b) 4 4, .string s]).run Try.prog w =
      .ok (.slice (some ⟨w.heap.size, 0, none⟩) (4 + s.size) (grownCap w (4 + s.size) 4 5))
        (w.drew.alloc (.cells (olds.toArray ++ s.data.map (fun b => Value.int .u8 b.toNat) ++ Builtin.zeroCells (Value.int .u8 0).cells (grownCap w (4 + s.size) 4 5 - (4 + s.size))) 5)) := by
  obtain ⟨i0, hi, hz0, hz1, hz2⟩ := info_parts info5
  have hn : ¬ (4 + s.size ≤ 4) := by omega
  have hn' : ¬ s.size = 0 := by omega
  have h63' : ¬ (9223372036854775807 < ((4 : Int) + (s.size : Int))) := by omega
  have h48' : ¬ (281474976710656 < Builtin.nextslicecap (4 + s.size) 4 * i0.bytes) := by have := growslice_fits (need := 4 + s.size) (old := 4) (bytes := i0.bytes) (by omega) (by rw [hz2]; omega); omega
  have hfo := run_firstCells_some (P := Try.prog) w.drew i0.size 4 b 4 4 olds (by rw [hz1]; omega) (by simpa using holds)
  have hx : (Array.map (fun b : UInt8 => Value.int IntKind.u8 (b.toNat : Int)) s.data).extract 0 s.size = Array.map (fun b : UInt8 => Value.int IntKind.u8 (b.toNat : Int)) s.data := by
    have hs : s.size = (Array.map (fun b : UInt8 => Value.int IntKind.u8 (b.toNat : Int)) s.data).size := by rw [Array.size_map]; rfl
    rw [hs, Array.extract_size]
  have hfs : ∀ w, (Builtin.firstCells i0.size s.size (.string s)).run Try.prog w = .ok (s.data.map (fun b => Value.int .u8 b.toNat)) w := fun w => by
    simp [Builtin.firstCells, hn']
  simp [Builtin.append_, run_underlying Try.underlying40, run_underlying Try.underlying9, sizeOf, typeInfo, zeroValue, hi, hz0, Builtin.lenOf, hn, h63', h48', Question.forced, hfo, hfs, newRow, grownCap]
theorem run_ap_str0 (w : World) (ty : TypeId) (b : Addr) (s : ByteArray) (h0 : s.size = 0) :
    (Builtin.append_ #[40, 9] ty #[.slice (some b) 4 4, .string s]).run Try.prog w = .ok (.slice (some b) 4 4) w := by
  obtain ⟨i0, hi, hz0, hz1, hz2⟩ := info_parts info5
  have he : s.data.extract 0 0 = #[] := by simp
  simp [Builtin.append_, run_underlying Try.underlying40, run_underlying Try.underlying9, sizeOf, typeInfo, zeroValue, hi, hz0, Builtin.lenOf, Builtin.firstCells, h0, storeCells]
section
variable {ops : Array Oper} {rest : List Oper} {o : Oper} {a : Act} {w : World} {Q : Exit → Act → World → Prop}
theorem ap_str (hgd : o.guard = none) (s x : Operand) (ho : o.op = .call { callee := .builtin .append, args := #[s, x], argTypes := #[40, 9] }) (b : Addr) (olds : List Value) (hlo : olds.length = 4) (holds : ∀ j v, olds[j]? = some v → w.cell? (b.add j) = some v) (st : ByteArray) (hs : a.eval s = .slice (some b) 4 4) (hx : a.eval x = .string st) (hsz : st.size ≤ 1000000)
    (h : ∀ ad c W, Below w.heap.size w W → Src W (some ad) (4 + st.size) c (olds ++ bcells st.data.toList) → wpList Try.prog ops Q rest (a.put o.dst (.slice (some ad) (4 + st.size) c)) W) : wpList Try.prog ops Q (o :: rest) a w := by
  by_cases h0 : st.size = 0
  · have hr := run_ap_str0 w o.type b st h0
    have hnil : bcells st.data.toList = [] := List.eq_nil_of_length_eq_zero (by rw [bcells_length]; simpa using h0)
    have h1 := h b 4 w (Below.refl _ _) ⟨by rw [List.length_append, hlo, hnil, h0]; rfl, (fun h => by cases h), fun ad had j v hv => by cases had; rw [hnil, List.append_nil] at hv; exact holds j v hv⟩
    rw [h0] at h1
    refine wpList_plain hgd fun K hK => ?_
    unfold Oper.wp execOp
    simp only [ho, resolve, invoke, builtin, Sem.run_bind, Sem.run_pure, Result.andThen_ok, List.map_toArray, List.map_cons, List.map_nil, hs, hx, hr]
    exact hK _ _ h1
  · have hr := run_ap_str w o.type b olds hlo holds st (by omega) hsz
    refine wpList_plain hgd fun K hK => ?_
    unfold Oper.wp execOp
    simp only [ho, resolve, invoke, builtin, Sem.run_bind, Sem.run_pure, Result.andThen_ok, List.map_toArray, List.map_cons, List.map_nil, hs, hx, hr]
    refine hK _ _ (h _ _ _ (bt (bd w) (ba _ _)) ⟨by rw [List.length_append, hlo, bcells_length]; exact congrArg (4 + ·) Array.length_toList, (fun h => by cases h), fun ad had j v hv => ?_⟩)
    cases had
    rw [Addr.add_mid, Nat.zero_add]
    have hlt : j < (olds ++ bcells st.data.toList).length := (List.getElem?_eq_some_iff.1 hv).1
    have e := cell_of_row (w.drew.alloc (.cells (olds.toArray ++ st.data.map (fun b => Value.int .u8 b.toNat) ++ Builtin.zeroCells (Value.int .u8 0).cells (grownCap w (4 + st.size) 4 5 - (4 + st.size))) 5)) w.heap.size j _ 5 (0, 0) (heap_alloc_new w.drew _)
    rw [e]
    have e2 : (olds.toArray ++ st.data.map (fun b => Value.int .u8 b.toNat) ++ Builtin.zeroCells (Value.int .u8 0).cells (grownCap w (4 + st.size) 4 5 - (4 + st.size))).toList = (olds ++ bcells st.data.toList) ++ (Builtin.zeroCells (Value.int .u8 0).cells (grownCap w (4 + st.size) 4 5 - (4 + st.size))).toList := by
      simp [bcells]
    rw [← Array.getElem?_toList, e2, List.getElem?_append_left hlt]
    exact hv
end
/-- A body's packet. -/
theorem wrap_any (s : ByteArray) (hs : s.size ≤ 65535) (w : World) : Calls Try.prog 21 #[.string s] w fun e w' => ∃ a c, e = .returned (.slice a (4 + s.size) c) ∧ Src w' a (4 + s.size) c (bcells (pkL s.data.toList)) ∧ Below w.heap.size w w' := by
  have e1 : bcells (pkL s.data.toList) = [.int .u8 42, .int .u8 2, .int .u8 ((s.size : Int) / 256), .int .u8 ((s.size : Int) % 256)] ++ bcells s.data.toList := by
    have hsz : s.data.toList.length = s.size := Array.length_toList
    have e := be16_cells (UInt16.ofNat s.size)
    have en : ((UInt16.ofNat s.size).toNat : Int) = (s.size : Int) := by simp; omega
    unfold pkL
    rw [hsz, bcells_append, bcells_append, e, en]
    rfl
  have HE : Hid (bcells (pkL s.data.toList) = [.int .u8 42, .int .u8 2, .int .u8 ((s.size : Int) / 256), .int .u8 ((s.size : Int) % 256)] ++ bcells s.data.toList) := e1
  clear e1
  have hs' : (s.size : Int) ≤ 65535 := by omega
  have N := new_src w #[.int .u8 42, .int .u8 2, .int .u8 ((s.size : Int) / 256), .int .u8 ((s.size : Int) % 256)]
  go_enter Try.func21, Try.ntmps21
  go_wp2_with (at_builtin; refine ap_str rfl (.tmp 10) (.tmp 11) rfl ⟨w.heap.size, 0, none⟩ [.int .u8 42, .int .u8 2, .int .u8 ((s.size : Int) / 256), .int .u8 ((s.size : Int) % 256)] rfl (N.cell _ rfl) s rfl rfl (by omega) ?_; intro ad c W hB hS)
  go_ret
  exact ⟨some ad, c, rfl, by rw [HE.out]; exact hS, bt (ba _ _) hB⟩
end Go.Proofs.Ytognnfknbkedgaa

namespace Go.Proofs.Ytognnfknbkedgaa
open Go.RowKit
set_option linter.unusedSimpArgs false
set_option maxRecDepth 20000

/-- Check takes a Tlv of which these hold. -/
theorem check_of (t r : Tl) (w : World) (hr : TSrc w r) (hrk : r.key = { zeroK with ty := t.ty }) (hrn : r.sn ≤ 100000)
    (hUn : ∀ W, Calls Try.prog 22 #[.agg (tcells t).toArray] W fun e w' => e = .returned (.tuple #[.agg (tcells r).toArray, .bool true]) ∧ Below W.heap.size W w')
    (hF : ∀ W, Calls Try.prog 23 #[.agg (tcells t).toArray] W fun e w' => e = .returned (.bool true) ∧ Below W.heap.size W w') (hq : chkQ t.pr = 0) :
    Calls Try.prog 10 #[.agg (tcells t).toArray] w fun e w' => e = .returned (.int .i64 0) ∧ Below w.heap.size w w' := by
  have HQ := checkQ_any t.pr
  rw [hq] at HQ
  have HS : Hid (∀ W, Below w.heap.size w W → Calls Try.prog 12 #[.agg (tcells r).toArray, .agg (tcells { zeroT with ty := t.ty }).toArray] W fun e w' => e = .returned (.bool true) ∧ Below W.heap.size W w') := fun W hW => psame_true r _ W (Src.below hr hW (Src.lt hr)) (Src.nil _) hrk hrn
  have RT := Row.new w 33 (tcells t)
  clear hrk hrn hq hr
  generalize hty : t.ty = y at *
  have HTY : Hid (t.ty = y) := hty
  clear hty
  go_enter Try.func10, Try.ntmps10
  go_wp2_with (first
    | (go_at_call 24; have kk := hb4; refine (HQ _).mono ?_; rintro e w5 ⟨rfl, hb5⟩)
    | (have kk := hb4; refine ldQ (.tmp 25) (by rfl) rfl _ _ t.pr rfl (rT4.rPr) ?_)
    | (go_at_call 23; have kk := hb3; refine (hF _).mono ?_; rintro e w4 ⟨rfl, hb4⟩; have rT4 := rT3.below hb4 rT3.lt)
    | (have kk := hb3; refine ldT (.tmp 1) (by rfl) rfl w.heap.size t rfl rT3 ?_)
    | (go_at_call 12; have kk := rC; refine (HS.out _ bC).mono ?_; rintro e w3 ⟨rfl, hb3⟩; have rT3 := rTC.below hb3 rTC.lt)
    | (have kk := rC; refine ldT (.tmp 3) (by rfl) rfl gA r rfl rC ?_)
    | (have kk := rA; refine stT (.tmp 3) (.tmp 8) (by rfl) rfl gA r _ rfl rfl rA ?_; intro wC hgC rC; have rTC := (rT1.below a3 rT1.lt).grown hgC (fun e => by have := Option.some.inj e; have := rT1.lt; omega); have bC := (bt b1 a3).grown hgC (bt b1 a3).size (fun k hk => by cases hk; exact Nat.le_trans b1.size a1); have c0 : wC.cell? ⟨w.heap.size, 0, none⟩ = some (.int .u8 (y : Int)) := (by have := rTC.cell 0; rw [this]; show some (Value.int .u8 (t.ty : Int)) = _; rw [HTY.out]))
    | (have kk := hb1; refine alG infoTz (by rfl) rfl ?_; intro gA wA a1 a2 a3 rA)
    | (go_at_call 22; refine (hUn _).mono ?_; rintro e w1 ⟨rfl, hb1⟩; have rT1 := RT.below hb1 RT.lt; have b1 := bt (ba w (.cells (tcells t).toArray 33)) hb1)
    | (refine ldT (.tmp 1) (by rfl) rfl w.heap.size t rfl RT ?_))
  go_ret
  exact ⟨rfl, bt (bt (bt bC hb3) hb4) hb5⟩

theorem check_8 (t : Tl) (w : World) (ht : TSrc w t) (hy : t.ty = 8) (hn : t.nonce = 0) (hr : t.rx = 0) (hh : t.hops = 0) (hu : t.uni = false) (hs : t.st = []) (hall : t.all = false) (hmet : t.met ≠ 65535) (hnob : nobB t.id = false) (hq : chkQ t.pr = 0) :
    Calls Try.prog 10 #[.agg (tcells t).toArray] w fun e w' => e = .returned (.int .i64 0) ∧ Below w.heap.size w w' := by
  have hl : t.sn = 0 := by have := TSrc.len ht; rw [hs] at this; exact this
  refine check_of t { t8 t with pr := zeroQ, id := zeroI, ad := zeroA } w ?_ ?_ ?_ (fun W => unnamed_8 t W hy) (fun W => fits_8 t W hy (fun W => fitsU_fin t W hall hmet hnob)) hq
  · rw [t8_def]; exact ht
  · rw [t8_def]
    obtain ⟨ty, no, iv, sq, rx, me, ho, un, al, id, ad, pr, sa, sn, sc, st⟩ := t
    simp only at hy hn hr hh hu hs
    subst hn hr hh hu hs
    rfl
  · rw [t8_def]; show t.sn ≤ _; omega
def lwS : Ad := ⟨[254, 128, 0, 0, 0, 0, 0, 0, 0, 0, 0, 0, 0, 0, 0, 1], rfl⟩
def lwP : Pf := ⟨⟨[0, 0, 0, 0, 0, 0, 0, 0, 0, 0, 255, 255, 10, 1, 3, 0], rfl⟩, 120⟩
def lwI : Id8 := ⟨[97, 98, 99, 100, 101, 102, 103, 104], rfl⟩
def lwA : Ad := ⟨[0, 0, 0, 0, 0, 0, 0, 0, 0, 0, 255, 255, 10, 0, 0, 9], rfl⟩
def lw1 : ByteArray := ⟨#[4, 6, 0, 0, 0, 5, 0, 100]⟩
def lw2 : ByteArray := ⟨#[6, 10, 0, 0, 97, 98, 99, 100, 101, 102, 103, 104, 7, 6, 1, 0, 10, 0, 0, 9, 8, 13, 1, 128, 24, 0, 0, 100, 0, 1, 0, 32, 10, 1, 2, 8, 11, 1, 0, 24, 2, 0, 100, 0, 1, 0, 32, 3]⟩
theorem lw1_e : parE (pkL lw1.data.toList) = 0 := by kernel_rfl
theorem lw2_e : parE (pkL lw2.data.toList) = 0 := by kernel_rfl
theorem lw1_k : (parL lwS (pkL lw1.data.toList)).map (fun k => (k.seq, k.intv)) = [(5, 100)] := by kernel_rfl
theorem lw2_k : (parL lwS (pkL lw2.data.toList)).map (fun k => (k.ty, k.nonce, k.rx, k.hops, k.uni, k.st, k.all, k.met)) = [(8, 0, 0, 0, false, [], false, 32), (8, 0, 0, 0, false, [], false, 32)] := by kernel_rfl
theorem lw2_i : ((parL lwS (pkL lw2.data.toList)).map (fun k => (k.id.l, k.ad.l, k.pr.d.a.l, k.pr.d.n, chkQ k.pr)))[1]? = some (lwI.l, lwA.l, lwP.a.l, 120, 0) := by kernel_rfl

theorem Tls.at0 {B : Nat} {w : World} {a : Option Addr} {c : Nat} {ts : List Tl} (h : Tls B w a c ts) (hne : ts ≠ []) : ∃ g, a = some ⟨g, 0, none⟩ ∧ g < w.heap.size ∧ ∀ j t, ts[j]? = some t → w.rangeAt g (j * 68) (tcells t) := by
  obtain ⟨g', o', e, hl, hr⟩ := h.tlw.place hne
  rcases h.own.2 with ⟨h1, h2⟩ | ⟨g, cap, cur, h1, _⟩
  · rw [e] at h1; cases h1
  · injection h1 with h2 _ _
    rw [h2] at e
    cases e
    exact ⟨_, h2, hl, fun j t ht => by have := hr j t ht; rw [Nat.zero_add] at this; exact this⟩
theorem live_parse1 (W : World) (a : Option Addr) (c : Nat) (hs : Src W a (4 + lw1.size) c (bcells (pkL lw1.data.toList))) :
    Calls Try.prog 14 #[(Value.agg (acells lwS).toArray), .slice a (4 + lw1.size) c] W fun e w' => ∃ g c t, e = .returned (.tuple #[.slice (some ⟨g, 0, none⟩) 1 c, .int .i64 0]) ∧ t.seq = 5 ∧ t.intv = 100 ∧ g < w'.heap.size ∧ w'.rangeAt g 0 (tcells t) ∧ Below W.heap.size W w' := by
  refine (parse_any lwS a _ c _ W hs (by decide)).mono ?_
  rintro e w' ⟨a, c, ts, rfl, hk, _, ht, hb⟩
  have h := lw1_k
  rw [← hk, List.map_map] at h
  rw [lw1_e]
  match ts, h, ht with
  | [], h, _ => simp at h
  | [t], h, ht =>
    simp [Tl.key] at h
    obtain ⟨g, rfl, hg, hr⟩ := ht.at0 (by simp)
    exact ⟨g, c, t, rfl, h.1, h.2, hg, hr 0 t rfl, hb⟩
  | _ :: _ :: _, h, _ => simp at h
structure Lw (t : Tl) : Prop where
  ty : t.ty = 8
  nonce : t.nonce = 0
  rx : t.rx = 0
  hops : t.hops = 0
  uni : t.uni = false
  st : t.st = []
  all : t.all = false
  met : t.met = 32
  id : t.id = lwI
  ad : t.ad = lwA
  pr : t.pr.d = lwP
  chk : chkQ t.pr = 0
theorem live_parse2 (W : World) (a : Option Addr) (c : Nat) (hs : Src W a (4 + lw2.size) c (bcells (pkL lw2.data.toList))) :
    Calls Try.prog 14 #[(Value.agg (acells lwS).toArray), .slice a (4 + lw2.size) c] W fun e w' => ∃ g c u, e = .returned (.tuple #[.slice (some ⟨g, 0, none⟩) 2 c, .int .i64 0]) ∧ Lw u ∧ g < w'.heap.size ∧ w'.rangeAt g 68 (tcells u) ∧ TSrc w' u ∧ Below W.heap.size W w' := by
  refine (parse_any lwS a _ c _ W hs (by decide)).mono ?_
  rintro e w' ⟨a, c, ts, rfl, hk, _, ht, hb⟩
  have h := lw2_k
  have g := lw2_i
  rw [← hk, List.map_map] at h g
  rw [lw2_e]
  match ts, h, g, ht with
  | [], h, _, _ => simp at h
  | [_], h, _, _ => simp at h
  | [t, u], h, g, ht =>
    simp [Tl.key] at h g
    obtain ⟨_, h0, h1, h2, h3, h4, h5, h6, h7⟩ := h
    obtain ⟨g1, g2, g3, g4, g5⟩ := g
    obtain ⟨g, rfl, hg, hr⟩ := ht.at0 (by simp)
    refine ⟨g, c, u, rfl, ⟨h0, h1, h2, h3, h4, h5, h6, h7, Id8.ext g1, Ad.ext g2, ?_, g5⟩, hg, hr 1 u rfl, ht.tlw.stms u (by simp), hb⟩
    have : u.pr.d.a = lwP.a := Ad.ext g3
    have e2 : u.pr.d.n = lwP.n := g4
    revert this e2
    generalize u.pr.d = d
    obtain ⟨da, dn⟩ := d
    rintro rfl rfl
    rfl
  | _ :: _ :: _ :: _, h, _, _ => simp at h
theorem live_check (u : Tl) (h : Lw u) (W : World) (hs : TSrc W u) : Calls Try.prog 10 #[.agg (tcells u).toArray] W fun e w' => e = .returned (.int .i64 0) ∧ Below W.heap.size W w' :=
  check_8 u W hs h.ty h.nonce h.rx h.hops h.uni h.st h.all (by rw [h.met]; decide) (by rw [h.id]; rfl) h.chk
theorem num6 (x : Int) (w : World) : Calls Try.prog 9 #[.int .i64 x] w fun e w' => e = .returned (.int .i64 x) ∧ w = w' := by
  go_enter Try.func9, Try.ntmps9
  go_wp2
  go_ret
  exact ⟨rfl, rfl⟩
end Go.Proofs.Ytognnfknbkedgaa
