/-
  The contracts of begin and Parse of package packet, for every address and every bytes.
-/
import Derived.Test.YtognnfknbkedgaaM21
import Derived.Test.YtognnfknbkedgaaM05
import Derived.Test.YtognnfknbkedgaaM07
import Derived.Deep.QuietTactic
import Derived.BigQuiet
import Derived.Test.YtognnfknbkedgaaM20
import Derived.Test.YtognnfknbkedgaaM18
namespace Go.Proofs.Ytognnfknbkedgaa
open Go.RowKit
set_option linter.unusedSimpArgs false
set_option maxRecDepth 20000
variable {bv : Option Addr}

/-- The parser at the beginning of a packet from src. -/
def st0 : St := ⟨none, none, none, none, none⟩
def bgS (src : Ad) : St := setHop st0 (famA src) src
theorem begin_any (src : Ad) (w : World) : Calls Try.prog 32 #[(Value.agg (acells src).toArray)] w fun e w' => ∃ P, e = .returned (.pointer (some ⟨P, 0, none⟩)) ∧ w.heap.size ≤ P ∧ Par w' P none (bgS src) ∧ Below w.heap.size w w' := by
  have HF := fam_any src
  have hf := fam_or src
  unfold bgS
  generalize famA src = f at *
  go_enter Try.func32, Try.ntmps32
  go_wp2
  refine name_world (R := fun W => Code.wp _ _ _ _ W) (P := fun W => Below w.heap.size w W ∧ Par W (w.heap.size + 1) none st0 ∧ Row W w.heap.size 26 (acells src)) _ ⟨bt (ba _ _) (ba _ _), ⟨none, none, none, none, none, two_newR w _ 105 (pcs none none none none none none), trivial, trivial, trivial, trivial, trivial⟩, (Row.new _ _ _).alloc _⟩ ?_
  rintro X ⟨hB, hP, hR⟩
  have P7 := hP.below (bd X)
  have rD := hR.below (bd X) hR.lt
  have bX := bt hB (bd X)
  rcases hf with rfl | rfl
  all_goals
    refine wp_region_noPanic ?_
    refine wp_region_held_drew (S := fun W => Row W w.heap.size 26 (acells src)) (by kernel_rfl) (rD) (fun hHeld => ?_)
    refine tA 0 ?_
    refine tL 1 rfl (yA src (fun W hW => hW.range) (by rfl) rfl rfl) ?_
    refine tA 3 ?_
    refine tA 4 ?_
    refine tA 5 ?_
    refine r1 2 fun K hK => ?_
    go_simp
    refine (HF _).mono ?_
    rintro e w8 ⟨rfl, hb8⟩
    have P8 := P7.below hb8
    have r8 := rD.below hb8 rD.lt
    obtain ⟨_, ⟨v4, c4, _⟩, ⟨v6, c6, _⟩, _⟩ := P8.at
    have f4 := P8.frozen 5
    have f6 := P8.frozen 7
    refine oK hK (by exact r8) fun hHeld => ?_
    clear hK K
    refine tA 6 ?_
    refine r1 7 fun K hK => ?_
    go_simp
    refine oK hK (by exact r8.setOther _ _ _ (by omega)) fun hHeld => ?_
    clear hK K
    refine dN ?_
    refine NoPanic.normal ?_
    go_wp2
    go_ret
    refine ⟨w.heap.size + 1, rfl, by omega, ?_, ((bt bX hb8).setCell (p := ⟨w.heap.size + 1, _, none⟩) (by show _ ≤ w.heap.size + 1; omega) _)⟩
    first | exact P8.setH4 r8 | exact P8.setH6 r8

/-! ### Slices of Tlvs -/
def tcs (ts : List Tl) : List Value := ts.flatMap tcells
theorem tcs_append (ts us : List Tl) : tcs (ts ++ us) = tcs ts ++ tcs us := by simp [tcs]
theorem run_bsT (t : Tl) (w : World) : (Instr.buildSlice 41 1 #[(0, .agg (tcells t).toArray)]).run Try.prog w = .ok (.slice (some ⟨w.heap.size, 0, none⟩) 1 1) (w.alloc (.cells (tcells t).toArray 33)) := by
  obtain ⟨ty, nonce, intv, seq, rx, met, hops, uni, all, ⟨il, hi⟩, ⟨al, ha⟩, ⟨⟨⟨dl, hd⟩, dn⟩, ⟨⟨sl, hs⟩, sn⟩⟩, sa, n, c, st⟩ := t
  match il, hi, al, ha, dl, hd, sl, hs with
  | [i0, i1, i2, i3, i4, i5, i6, i7], _, [b0, b1, b2, b3, b4, b5, b6, b7, b8, b9, b10, b11, b12, b13, b14, b15], _, [c0, c1, c2, c3, c4, c5, c6, c7, c8, c9, c10, c11, c12, c13, c14, c15], _, [d0, d1, d2, d3, d4, d5, d6, d7, d8, d9, d10, d11, d12, d13, d14, d15], _ =>
    show _ = _
    kernel_rfl
section
variable {ops : Array Oper} {rest : List Oper} {op : Oper} {a : Act} {w : World} {Q : Exit → Act → World → Prop}
theorem bsT (x : Operand) (hw : Region.wanted op (yielded ops a.tmps) = true) (ho : op.op = .buildSlice 41 1 #[(0, x)]) (t : Tl) (hx : a.eval x = .agg (tcells t).toArray)
    (h : ∀ g W, w.heap.size ≤ g → Below w.heap.size w W → Row W g 33 (tcells t) → wpList Try.prog ops Q rest (a.put op.dst (.slice (some ⟨g, 0, none⟩) 1 1)) W) : wpList Try.prog ops Q (op :: rest) a w :=
  wpList_step fun K hK => by
    rw [if_pos hw]
    unfold Oper.wp execOp
    simp only [ho, List.map_toArray, List.map_cons, List.map_nil, hx, Sem.run_bind, run_bsT, Result.andThen_ok, Sem.run_pure]
    exact hK _ _ (h _ _ (Nat.le_refl _) (ba _ _) (Row.new _ _ _))
theorem append_tlv {o : Oper} (hgd : o.guard = none) (s x : Operand)
    (ho : o.op = .call { callee := .builtin .append, args := #[s, x], argTypes := #[41, 41] })
    (base : Nat) (v : Value) (n : Nat) (ts : List Tl) (hs : a.eval s = v) (hown : w.ownsRow base 33 68 v n (tcs ts))
    (g : Nat) (t : Tl) (c : Nat) (hx : a.eval x = .slice (some ⟨g, 0, none⟩) 1 c) (hr : Row w g 33 (tcells t))
    (hbytes : n + 1 ≤ 1000000) (hbase : base ≤ w.heap.size)
    (h : ∀ v' w', w'.ownsRow base 33 68 v' (n + 1) (tcs (ts ++ [t])) → w.grownBy w' v.ownBlock → wpList Try.prog ops Q rest (a.put o.dst v') w') : wpList Try.prog ops Q (o :: rest) a w := by
  obtain ⟨i0, hi, hz0, hz1, hz2⟩ := info_parts infoT
  refine wpList_append_own w hgd s x 41 ho base 33 i0 (.agg (tcells zeroT).toArray) 68 112 Try.underlying41 hi hz0 hz1 hz2 rfl (by decide) v n (tcs ts) hs hown ⟨g, 0, none⟩ 1 c (tcells t) hx (by simp [tcells_len]) (fun j u hu => ?_) (tcells_one t) (by unfold maxLen; omega) (by omega) hbase (fun v' w' h1 h2 _ => h v' w' (by rw [tcs_append]; simpa [tcs] using h1) h2)
  rw [Addr.add_mid, Nat.zero_add, hr.cell]
  exact hu
end

/-! ### What pieces tell -/
def tellL : St → List (UInt8 × List UInt8) → List TK
  | _, [] => []
  | s, k :: ks => (if sayB s k.1.toNat k.2 then [sayK s k.1.toNat k.2] else []) ++ tellL (sayS s k.1.toNat k.2) ks
def tellS (s : St) (ks : List (UInt8 × List UInt8)) : St := ks.foldl (fun s k => sayS s k.1.toNat k.2) s
theorem tellL_append (s : St) (ks js : List (UInt8 × List UInt8)) : tellL s (ks ++ js) = tellL s ks ++ tellL (tellS s ks) js := by
  induction ks generalizing s with
  | nil => rfl
  | cons k ks ih =>
    rw [List.cons_append, tellL, ih, tellL, List.append_assoc]
    rfl
theorem tellS_append (s : St) (ks js : List (UInt8 × List UInt8)) : tellS s (ks ++ js) = tellS (tellS s ks) js := by unfold tellS; rw [List.foldl_append]
def parE (p : List UInt8) : Int := if opE p ≠ 0 then opE p else (splL (opB p)).2
def parL (src : Ad) (p : List UInt8) : List TK := tellL (bgS src) (splL (opB p)).1
/-- Tlvs in memory of the call's own. -/
structure Tls (B : Nat) (w : World) (a : Option Addr) (c : Nat) (ts : List Tl) : Prop where
  own : w.ownsRow B 33 68 (.slice a ts.length c) ts.length (tcs ts)
  stms : ∀ t ∈ ts, Stms B w t
/-- What Parse tells. -/
def Parsed (w : World) (src : Ad) (p : List UInt8) (e : Ending) (w' : World) : Prop := ∃ a c ts, e = .returned (.tuple #[.slice a ts.length c, .int .i64 (parE p)]) ∧ ts.map Tl.key = parL src p ∧ ts.length ≤ p.length ∧ Tls w.heap.size w' a c ts ∧ Below w.heap.size w w'
/-- What Parse's rounds keep. -/
structure PrAt (w wr : World) (P : Nat) (src : Ad) (ks : List (UInt8 × List UInt8)) (v : Value) (ts : List Tl) : Prop where
  own : wr.ownsRow w.heap.size 33 68 v ts.length (tcs ts)
  stms : ∀ t ∈ ts, Stms w.heap.size wr t
  keys : ts.map Tl.key = tellL (bgS src) ks
  par : ∃ R, Par wr P R (tellS (bgS src) ks)
  bel : Below w.heap.size w wr
theorem tell_one (s : St) (k : UInt8 × List UInt8) : tellL s [k] = if sayB s k.1.toNat k.2 then [sayK s k.1.toNat k.2] else [] := by
  simp [tellL]
theorem keys_take (ps : List Pc) (j : Nat) (hj : j < ps.length) : keys (ps.take (j + 1)) = keys (ps.take j) ++ [(ps[j].t, ps[j].l)] := by
  unfold keys
  rw [List.take_succ_eq_append_getElem hj, List.map_append]
  rfl
theorem parse_err (src : Ad) (a : Option Addr) (n c : Nat) (l : List UInt8) (w : World) (hs : Src w a n c (bcells l)) (hn : n ≤ 100000) (he : opE l ≠ 0) : Calls Try.prog 14 #[(Value.agg (acells src).toArray), .slice a n c] w (Parsed w src l) := by
  have hO : ∀ W, Src W a n c (bcells l) → Calls Try.prog 30 #[.slice a n c] W fun e w' => ∃ a1 n1 c1 a2 n2 c2, e = .returned (.tuple #[.slice a1 n1 c1, .slice a2 n2 c2, .int .i64 (opE l)]) ∧ Below W.heap.size W w' := fun W h => by
    refine (open_any a n c l W h (by omega)).mono ?_
    rintro e w' ⟨a1, c1, a2, c2, rfl, _, _, hb⟩
    exact ⟨a1, _, c1, a2, _, c2, rfl, hb⟩
  have e1 : parE l = opE l := by unfold parE; rw [if_pos he]
  have e2 : parL src l = [] := by unfold parL opB; rw [if_neg he]; rfl
  unfold Parsed
  rw [e1, e2]
  generalize opE l = z at *
  have he' : (z != 0) = true := by simpa using he
  clear he e1 e2
  go_enter Try.func14, Try.ntmps14
  go_wp2_with (go_at_call 30; refine (hO _ (hs.alloc _)).mono ?_; rintro e w1 ⟨a1, n1, c1, a2, n2, c2, rfl, hb1⟩)
  go_ret2
  exact ⟨none, 0, [], rfl, rfl, by simp, ⟨World.ownsRow_nil _ _ _ _, fun _ h => by cases h⟩, bt (ba _ _) hb1⟩

theorem own_ne' {w : World} {B : Nat} {e : TypeId} {s : Nat} {v : Value} {n : Nat} {xs : List Value} (h : w.ownsRow B e s v n xs) {g : Nat} {t : TypeId} {cs : List Value} (hr : Row w g t cs) (ht : e ≠ t) (e' : v.ownBlock = some g) : False := own_ne h hr (fun x => ht x.symm) e'.symm
theorem Par.own_ne {w : World} {P : Nat} {R : Option Nat} {s : St} {B : Nat} {e : TypeId} {sz : Nat} {v : Value} {n : Nat} {xs : List Value} (h : Par w P R s) (ho : w.ownsRow B e sz v n xs) (he : e ≠ 105) : v.ownBlock ≠ some P := by
  obtain ⟨r, h4, h6, d1, d2, k0, _⟩ := h.ex
  exact fun e' => own_ne' ho k0 he e'
/-- Behind a piece that was said. -/
structure PrIn (w wr : World) (P : Nat) (s : St) (v : Value) (ts : List Tl) : Prop where
  own : wr.ownsRow w.heap.size 33 68 v ts.length (tcs ts)
  stms : ∀ t ∈ ts, Stms w.heap.size wr t
  par : ∃ R, Par wr P R s
  bel : Below w.heap.size w wr
theorem PrAt.said {w wr w4 w6 : World} {P : Nat} {src : Ad} {ks : List (UInt8 × List UInt8)} {v : Value} {ts : List Tl} {s' : St} (H : PrAt w wr P src ks v ts) (hP : w.heap.size ≤ P) (o : Obj) (hg4 : (wr.alloc o).grownBy w4 (some P)) (hp4 : ∃ R, Par w4 P R s') (b46 : Below w4.heap.size w4 w6) : PrIn w w6 P s' v ts := by
  obtain ⟨R, hpar⟩ := H.par
  have p1 := hpar.below (ba wr o)
  obtain ⟨R4, p4⟩ := hp4
  refine ⟨own_keep (own_keep (H.own.alloc o) hg4 (.inl (p1.own_ne (H.own.alloc o) (by decide)))) (grownBy_below none b46) (.inr rfl), fun t ht => ?_, ⟨R4, p4.below b46⟩, ?_⟩
  · have k := H.stms t ht
    unfold Stms at k ⊢
    exact own_keep (own_keep (k.alloc o) hg4 (.inl (p1.own_ne (k.alloc o) (by decide)))) (grownBy_below none b46) (.inr rfl)
  · have k1 := (H.bel.alloc H.bel.size o).grown hg4 (by have := H.bel.size; simp; omega) (fun k hk => by cases hk; exact hP)
    exact k1.trans (b46.mono k1.size)
theorem PrIn.skip {w wr : World} {P : Nat} {src : Ad} {ks : List (UInt8 × List UInt8)} {k : UInt8 × List UInt8} {v : Value} {ts : List Tl} (h : PrIn w wr P (sayS (tellS (bgS src) ks) k.1.toNat k.2) v ts) (hk : ts.map Tl.key = tellL (bgS src) ks) (hb : sayB (tellS (bgS src) ks) k.1.toNat k.2 = false) : PrAt w wr P src (ks ++ [k]) v ts :=
  ⟨h.own, h.stms, by rw [tellL_append, tell_one, hb, hk]; simp, by rw [tellS_append]; exact h.par, h.bel⟩
theorem PrIn.push {w wr w7 : World} {P : Nat} {src : Ad} {ks : List (UInt8 × List UInt8)} {k : UInt8 × List UInt8} {v v' : Value} {ts : List Tl} {tt : Tl} (h : PrIn w wr P (sayS (tellS (bgS src) ks) k.1.toNat k.2) v ts) (hk : ts.map Tl.key = tellL (bgS src) ks) (hb : sayB (tellS (bgS src) ks) k.1.toNat k.2 = true) (htt : tt.key = sayK (tellS (bgS src) ks) k.1.toNat k.2) (hst : Stms w.heap.size wr tt)
    (own7 : w7.ownsRow w.heap.size 33 68 v' (ts.length + 1) (tcs (ts ++ [tt]))) (hg7 : wr.grownBy w7 v.ownBlock) : PrAt w w7 P src (ks ++ [k]) v' (ts ++ [tt]) := by
  refine ⟨by simpa using own7, fun t ht => ?_, by rw [List.map_append, tellL_append, tell_one, hb, hk]; simp [htt], ?_, h.bel.grown hg7 h.bel.size (fun j hj => (h.own.lt j hj).1)⟩
  · have k0 : Stms w.heap.size wr t := by
      rcases List.mem_append.1 ht with h1 | h1
      · exact h.stms t h1
      · obtain rfl : t = tt := by simpa using h1
        exact hst
    unfold Stms at k0 ⊢
    exact own_keep k0 hg7 (own_apart k0 h.own (by decide))
  · obtain ⟨R, p⟩ := h.par
    rw [tellS_append]
    exact ⟨R, p.grown hg7 (fun b t cs hr ht => own_ne h.own hr (by rcases ht with rfl | rfl | rfl <;> decide))⟩
theorem opB_le (l : List UInt8) : (opB l).length ≤ l.length := by
  unfold opB
  split
  · match l with
    | [] => simp
    | [_] => simp
    | [_, _] => simp
    | [_, _, _] => simp
    | _ :: _ :: _ :: _ :: r => simp; omega
  · simp
set_option maxHeartbeats 8000000 in
theorem parse_ok (src : Ad) (a : Option Addr) (n0 c : Nat) (l : List UInt8) (w : World) (hs : Src w a n0 c (bcells l)) (hn : n0 ≤ 100000) (he : opE l = 0) : Calls Try.prog 14 #[(Value.agg (acells src).toArray), .slice a n0 c] w (Parsed w src l) := by
  have hlen := hs.blen
  have hB := opB_le l
  obtain ⟨body, hbody⟩ : ∃ b, opB l = b := ⟨_, rfl⟩
  obtain ⟨N, HN⟩ : ∃ N, Hid (N = body.length) := ⟨_, rfl⟩
  obtain ⟨z, HZ⟩ : ∃ z, Hid (z = (splL body).2) := ⟨_, rfl⟩
  have HE : Hid (parE l = z ∧ parL src l = tellL (bgS src) (splL body).1 ∧ body.length ≤ l.length) := ⟨by unfold parE; rw [he, hbody, HZ.out]; simp, by unfold parL; rw [hbody], by rw [← hbody]; exact hB⟩
  have hO : Hid (∀ W, Src W a n0 c (bcells l) → Calls Try.prog 30 #[.slice a n0 c] W fun e w' => ∃ a1 c1 a2 n2 c2, e = .returned (.tuple #[.slice a1 N c1, .slice a2 n2 c2, .int .i64 0]) ∧ Src w' a1 N c1 (bcells body) ∧ Below W.heap.size W w') := fun W h => by
    refine (open_any a n0 c l W h (by omega)).mono ?_
    rintro e w' ⟨a1, c1, a2, c2, rfl, s1, _, hb⟩
    have s1 := s1.1
    rw [hbody] at s1
    rw [he, hbody, HN.out]
    exact ⟨a1, c1, a2, _, c2, rfl, s1, hb⟩
  have hNl : N ≤ 100000 := by have := HN.out; have := HE.out.2.2; omega
  have HSP : Hid (∀ W a c, Src W a N c (bcells body) → Calls Try.prog 31 #[.slice a N c] W fun e w' => ∃ a c ps n, Hid (n = ps.length) ∧ e = .returned (.tuple #[.slice a n c, .int .i64 z]) ∧ Hid (keys ps = (splL body).1) ∧ Rws w' a n ps ∧ Hid (ps.length ≤ body.length) ∧ n ≤ 100000 ∧ Below W.heap.size W w') := by
    intro W a c h
    refine (split_any a N c body W h (by omega)).mono ?_
    rintro e w' ⟨a, c, ps, rfl, k1, k2, k3, k4, k5⟩
    rw [HZ.out]
    exact ⟨a, c, ps, _, (rfl : _ = _), rfl, k1, own_rws k2 k3, k4, by have := HN.out; omega, k5⟩
  have HBG := begin_any src
  have HLE : Hid (∀ k ∈ (splL body).1, k.2.length ≤ 100000) := fun k hk => by have := spl_le _ _ k hk; have := HN.out; omega
  clear he hbody hB HZ hlen
  go_enter Try.func14, Try.ntmps14
  go_wp2_with (first
    | (go_at_call 32; have kk := hk2; refine (HBG _).mono ?_; rintro e w3 ⟨P, rfl, hP, par3, b3⟩)
    | (have kk := hk2; refine ldA (.tmp 2) (by rfl) rfl w.heap.size 0 src rfl rS.range ?_)
    | (go_at_call 31; refine (HSP.out _ _ _ s1).mono ?_; rintro e w2 ⟨a2, c2, ps, n, hn2, rfl, hk2, rw2, hle2, hnn, b2⟩; have bb2 := bt (bt (ba w (.cells (acells src).toArray 26)) b1) b2; have rS : Row w2 w.heap.size 26 (acells src) := ((Row.new w 26 (acells src)).below b1 (by simp)).below b2 (by have := b1.size; simp at this; omega))
    | (go_at_call 30; refine (hO.out _ (hs.alloc _)).mono ?_; rintro e w1 ⟨a1, c1, at1, nt1, ct1, rfl, s1, b1⟩))
  clear rS kk
  go_loopw [10, 34] (fun v i wr => ∃ (j : Nat) (ts : List Tl), j ≤ n ∧ i = .int .i64 j ∧ ts.length ≤ j ∧ PrAt w2 wr P src (keys (ps.take j)) v ts) (fun _ i _ => n - (intOf i).toNat)
  case atStart => exact ⟨0, [], Nat.zero_le _, rfl, Nat.le_refl _, ⟨World.ownsRow_nil _ _ _ _, (fun _ h => by cases h), rfl, ⟨_, par3⟩, b3⟩⟩
  case round =>
    clear par3 b3
    obtain ⟨j, ts, hj, rfl, htj, H⟩ := hrel
    by_cases hlt : j < n
    · have hjk : j < ps.length := by have := hn2.out; omega
      obtain ⟨gp, op, rfl, c0, c1⟩ := (rw2.below H.bel).at hjk
      have sB := (rw2.body ps[j] (List.getElem_mem hjk)).below H.bel (rw2.body ps[j] (List.getElem_mem hjk)).lt
      have hpl : ps[j].l.length ≤ 100000 := HLE.out (ps[j].t, ps[j].l) (by rw [← hk2.out]; exact List.mem_map.2 ⟨ps[j], List.getElem_mem hjk, rfl⟩)
      have HT := keys_take ps j hjk
      have htl := ps[j].t.toNat_lt
      obtain ⟨S, hS⟩ : ∃ S, tellS (bgS src) (keys (ps.take j)) = S := ⟨_, rfl⟩
      generalize ps[j].t = pt at *
      generalize ps[j].a = pa at *
      generalize ps[j].n = pn at *
      generalize ps[j].c = pc at *
      generalize ps[j].l = pl at *
      obtain ⟨bb, hbb⟩ : ∃ b, sayB S pt.toNat pl = b := ⟨_, rfl⟩
      have HSY : Hid (∀ W R, Par W P R S → Src W pa pn pc (bcells pl) → Calls Try.prog 33 #[.pointer (some ⟨P, 0, none⟩), .agg #[.int .u8 (pt.toNat : Int), .slice pa pn pc]] W (Said W P (sayS S pt.toNat pl) (sayK S pt.toNat pl) bb)) := fun W R h1 h2 => by rw [← hbb]; exact say_any pt.toNat pa pn pc pl h2 hpl h1 htl
      have HBB : Hid (sayB (tellS (bgS src) (keys (ps.take j))) pt.toNat pl = bb) := by show _ = _; rw [hS]; exact hbb
      have HSS : Hid (tellS (bgS src) (keys (ps.take j)) = S) := hS
      have HTT : Hid (keys (ps.take (j + 1)) = keys (ps.take j) ++ [(pt, pl)]) := HT
      obtain ⟨R0, p0⟩ := H.par
      rw [hS] at p0
      have p1 := p0.below (ba wr (.cells #[.int .u8 (pt.toNat : Int), .slice pa pn pc] 72))
      have hbs := H.bel.size
      have hlt2 : ts.length + 1 ≤ 1000000 := by omega
      clear hS hbb HT p0
      cases bb
      · go_wp2_with (first
          | (have kk := hg4; refine stT (.tmp 14) (.tmp 42) (by rfl) rfl gT tt _ rfl rfl rT ?_; intro w5 hg5 r5)
          | (have kk := hg4; refine alG infoTz (by rfl) rfl ?_; intro gT wT t1 t2 t3 rT)
          | (go_at_call 33; refine (HSY.out _ _ p1 (sB.alloc _)).mono ?_; rintro e w4 ⟨⟨tt, rfl, htt, st4⟩, p4, hg4⟩))
        have b45 : Below w4.heap.size w4 w5 := t3.grown hg5 t3.size (fun k hk => by cases hk; exact t1)
        go_roundw
        case rel =>
          have q := H.said hP _ hg4 p4 b45
          rw [← HSS.out] at q
          exact ⟨j + 1, ts, by omega, by go_num, by omega, by rw [HTT.out]; exact q.skip (k := (pt, pl)) H.keys HBB.out⟩
        case measure => simp [intOf]; omega
      · go_wp2_with (first
          | (at_builtin; have kk := rL; refine append_tlv rfl (.tmp 45) (.tmp 47) rfl w2.heap.size u10 ts.length ts rfl q6.own gL tt 1 rfl rL hlt2 q6.bel.size ?_; intro v7 w7 own7 hg7)
          | (have kk := r5; refine bsT (.tmp 46) (by rfl) rfl tt rfl ?_; intro gL w6 l1 l2 rL; have b46 := b45.trans (l2.mono b45.size); have q6 := H.said hP _ hg4 p4 b46)
          | (have kk := r5; refine ldT (.tmp 14) (by rfl) rfl gT tt rfl r5 ?_)
          | (have kk := hg4; refine stT (.tmp 14) (.tmp 42) (by rfl) rfl gT tt _ rfl rfl rT ?_; intro w5 hg5 r5; have b45 : Below w4.heap.size w4 w5 := t3.grown hg5 t3.size (fun k hk => by cases hk; exact t1))
          | (have kk := hg4; refine alG infoTz (by rfl) rfl ?_; intro gT wT t1 t2 t3 rT)
          | (go_at_call 33; refine (HSY.out _ _ p1 (sB.alloc _)).mono ?_; rintro e w4 ⟨⟨tt, rfl, htt, st4⟩, p4, hg4⟩))
        have st6 : Stms w2.heap.size w6 tt := own_keep (own_le st4 (by simp; omega)) (grownBy_below none b46) (.inr rfl)
        rw [← HSS.out] at q6 htt
        have q7 := q6.push (k := (pt, pl)) H.keys HBB.out (htt (by first | rfl | trivial)) st6 own7 hg7
        go_roundw
        case rel => exact ⟨j + 1, ts ++ [tt], by omega, by go_num, by simp; omega, by rw [HTT.out]; exact q7⟩
        case measure => simp [intOf]; omega
    · obtain rfl : n = j := by omega
      have hps : ps.take n = ps := List.take_of_length_le (by have := hn2.out; omega)
      rw [hps, hk2.out] at H
      go_wp2
      go_ret2
      obtain ⟨aF, cF, rfl⟩ := own_shape2 H.own
      obtain ⟨e1, e2, e3⟩ := HE.out
      refine ⟨aF, cF, ts, by rw [e1]; rfl, by rw [e2]; exact H.keys, by have := hn2.out; have := hle2.out; omega, ⟨own_le H.own bb2.size, fun t ht => own_le (H.stms t ht) bb2.size⟩, bb2.trans (H.bel.mono bb2.size)⟩
theorem parse_any (src : Ad) (a : Option Addr) (n c : Nat) (l : List UInt8) (w : World) (hs : Src w a n c (bcells l)) (hn : n ≤ 100000) : Calls Try.prog 14 #[(Value.agg (acells src).toArray), .slice a n c] w (Parsed w src l) := by
  by_cases he : opE l = 0
  · exact parse_ok src a n c l w hs hn he
  · exact parse_err src a n c l w hs hn he
end Go.Proofs.Ytognnfknbkedgaa

namespace Go.Proofs.Ytognnfknbkedgaa
open Go.RowKit
set_option linter.unusedSimpArgs false
set_option maxRecDepth 20000

theorem tcs_get (ts : List Tl) (j : Nat) (t : Tl) (h : ts[j]? = some t) (k : Nat) (hk : k < 68) : (tcs ts)[j * 68 + k]? = (tcells t)[k]? := by
  induction ts generalizing j with
  | nil => simp at h
  | cons q ps ih =>
    have e : tcs (q :: ps) = tcells q ++ tcs ps := by simp [tcs]
    rw [e]
    cases j with
    | zero =>
      simp at h
      subst h
      rw [List.getElem?_append_left (by rw [tcells_len]; omega)]
      simp
    | succ j =>
      rw [List.getElem?_append_right (by rw [tcells_len]; omega)]
      have e2 : (j + 1) * 68 + k - (tcells q).length = j * 68 + k := by rw [tcells_len]; omega
      rw [e2]
      exact ih j (by simpa using h)
/-- A slice of Tlvs. -/
structure TlW (w : World) (a : Option Addr) (n : Nat) (ts : List Tl) : Prop where
  len : ts.length = n
  place : ts ≠ [] → ∃ g o, a = some ⟨g, o, none⟩ ∧ g < w.heap.size ∧ ∀ j t, ts[j]? = some t → w.rangeAt g (o + j * 68) (tcells t)
  stms : ∀ t ∈ ts, TSrc w t
theorem TlW.below {w w' : World} {a : Option Addr} {n : Nat} {ts : List Tl} (h : TlW w a n ts) (hb : Below w.heap.size w w') : TlW w' a n ts :=
  ⟨h.len, fun hne => by
    obtain ⟨g, o, e, hg, hr⟩ := h.place hne
    exact ⟨g, o, e, Nat.lt_of_lt_of_le hg hb.size, fun j p hp i v hv => (hb.cell (p := ⟨g, o + j * 68 + i, none⟩) hg).trans (hr j p hp i v hv)⟩, fun p hp => Src.below (h.stms p hp) hb (Src.lt (h.stms p hp))⟩
theorem own_src77 {w : World} {B : Nat} {a : Option Addr} {n c : Nat} {xs : List Value} (h : w.ownsRow B 63 1 (.slice a n c) n xs) : Src w a n c xs := by
  rcases h.2 with ⟨h1, h2⟩ | ⟨g, cap, cur, h1, hb, hh, hr⟩
  · cases h1
    have : xs = [] := List.eq_nil_of_length_eq_zero (by simpa using h.1)
    subst this
    exact Src.nil w
  · cases h1
    refine ⟨by simpa using h.1, (fun h => by cases h), fun ad had j u hu => ?_⟩
    cases had
    exact h.cells rfl j u hu
theorem Tls.tlw {B : Nat} {w : World} {a : Option Addr} {c : Nat} {ts : List Tl} (h : Tls B w a c ts) : TlW w a ts.length ts := by
  refine ⟨rfl, fun hne => ?_, fun t ht => own_src77 (h.stms t ht)⟩
  rcases h.own.2 with ⟨_, h2⟩ | ⟨g, cap, cur, hv, _, hh, _, _, _, _⟩
  · exact absurd (List.eq_nil_of_length_eq_zero h2) hne
  · cases hv
    refine ⟨g, 0, rfl, lt_of_block hh, fun j p hp k u hu => ?_⟩
    have hk : k < 68 := by have := (List.getElem?_eq_some_iff.1 hu).1; rwa [tcells_len] at this
    have := h.own.cells rfl (j * 68 + k) u (by rw [tcs_get ts j p hp k hk]; exact hu)
    rw [Addr.add_mid] at this
    rw [Nat.add_assoc]
    exact this
theorem TlW.at {w : World} {a : Option Addr} {n : Nat} {ts : List Tl} (h : TlW w a n ts) {j : Nat} (hj : j < ts.length) : ∃ g o, a = some ⟨g, o, none⟩ ∧ g < w.heap.size ∧ w.rangeAt g (o + j * 68) (tcells ts[j]) := by
  obtain ⟨g, o, e, hl, hr⟩ := h.place (by rintro rfl; simp at hj)
  exact ⟨g, o, e, hl, hr j ts[j] (List.getElem?_eq_getElem hj)⟩
theorem TlW.take {w : World} {a : Option Addr} {n : Nat} {ts : List Tl} (h : TlW w a n ts) (k : Nat) (hk : k ≤ n) : TlW w a k (ts.take k) := by
  refine ⟨by rw [List.length_take, h.len]; omega, fun hne => ?_, fun t ht => h.stms t (List.mem_of_mem_take ht)⟩
  obtain ⟨g, o, e, hl, hr⟩ := h.place (by rintro rfl; simp at hne)
  exact ⟨g, o, e, hl, fun j t ht => hr j t (take_get ht)⟩
section
variable {ops : Array Oper} {op : Oper} {a : Act} {S : World → Prop}
theorem yTm {b o : Nat} {x : Operand} (t : Tl) (hS : ∀ w, S w → w.rangeAt b o (tcells t)) (hw : Region.wanted op (yielded ops a.tmps) = true) (ho : op.op = .load 33 x) (hx : a.eval x = .pointer (some ⟨b, o, none⟩)) : YieldsIf Try.prog ops S op (.agg (tcells t).toArray) a :=
  yieldsIf_load_mid hw _ x ho b o hx (tcells t) _ hS Try.underlying33 rfl (by rw [infoTs, tcells_len])
end
theorem range_below {w w' : World} {b o : Nat} {cs : List Value} (h : w.rangeAt b o cs) (hl : b < w.heap.size) (hb : Below w.heap.size w w') : w'.rangeAt b o cs := rangeAt_below h hb hl

end Go.Proofs.Ytognnfknbkedgaa

namespace Go.Proofs.Ytognnfknbkedgaa
open Go.RowKit
set_option linter.unusedSimpArgs false
set_option maxRecDepth 20000

set_option maxHeartbeats 4000000 in
theorem psame_any (t u : Tl) (w : World) (ht : TSrc w t) (hu : TSrc w u) (hn : t.sn ≤ 100000) :
    Calls Try.prog 12 #[.agg (tcells t).toArray, .agg (tcells u).toArray] w fun e w' => e = .returned (.bool (sameB t.key u.key)) ∧ Below w.heap.size w w' := by
  have HE : sameB t.key u.key = (sameN t.key u.key && ((t.uni == u.uni) && ((t.all == u.all) && (decide (t.id.l = u.id.l) && (decide (t.ad.l = u.ad.l) && (prqB t.pr u.pr && decide (t.st = u.st))))))) := rfl
  rw [HE]
  clear HE
  have HSN0 := snum_any t u
  obtain ⟨bN, hbN⟩ : ∃ b, sameN t.key u.key = b := ⟨_, rfl⟩
  rw [hbN] at HSN0
  rw [hbN]
  have HSN : Hid (∀ W, Calls Try.prog 28 #[.agg (tcells t).toArray, .agg (tcells u).toArray] W fun e w' => e = .returned (.bool bN) ∧ Below W.heap.size W w') := HSN0
  clear HSN0 hbN
  obtain ⟨bS, hbS⟩ : ∃ b, decide (t.st = u.st) = b := ⟨_, rfl⟩
  have HEQ0 : ∀ W, Below w.heap.size w W → Calls Try.prog 29 #[.slice t.sa t.sn t.sc, .slice u.sa u.sn u.sc] W fun e w' => e = .returned (.bool bS) ∧ Below W.heap.size W w' := fun W hW => by
    rw [← hbS]
    exact equal_any t.sa u.sa t.sn u.sn t.sc u.sc t.st u.st W (Src.below ht hW (Src.lt ht)) (Src.below hu hW (Src.lt hu)) hn
  rw [hbS]
  have eI := fun w => eqI 9998 t.id u.id w
  have eA := fun w => eqA 9998 t.ad u.ad w
  have eQ : ∀ w, (Op.equalIn (9996 + 4) 30 (Value.agg (qcells t.pr).toArray) (Value.agg (qcells u.pr).toArray)).run Try.prog w = .ok (prqB t.pr u.pr) w := fun w => eqQ 9996 t.pr u.pr w
  generalize decide (t.id.l = u.id.l) = bI at *
  generalize decide (t.ad.l = u.ad.l) = bA at *
  generalize prqB t.pr u.pr = bQ at *
  have HU67 : Hid (∀ (W : World) (g : Nat), Row W g 33 (tcells t) → W.cell? ⟨g, 67, none⟩ = some (.slice t.sa t.sn t.sc)) := fun W g r => r.rSt
  have HV67 : Hid (∀ (W : World) (g : Nat), Row W g 33 (tcells u) → W.cell? ⟨g, 67, none⟩ = some (.slice u.sa u.sn u.sc)) := fun W g r => r.rSt
  have HU7 : Hid (∀ (W : World) (g : Nat), Row W g 33 (tcells t) → W.cell? ⟨g, 7, none⟩ = some (.bool t.uni)) := fun W g r => r.cell 7
  have HV7 : Hid (∀ (W : World) (g : Nat), Row W g 33 (tcells u) → W.cell? ⟨g, 7, none⟩ = some (.bool u.uni)) := fun W g r => r.cell 7
  have HU8 : Hid (∀ (W : World) (g : Nat), Row W g 33 (tcells t) → W.cell? ⟨g, 8, none⟩ = some (.bool t.all)) := fun W g r => r.cell 8
  have HV8 : Hid (∀ (W : World) (g : Nat), Row W g 33 (tcells u) → W.cell? ⟨g, 8, none⟩ = some (.bool u.all)) := fun W g r => r.cell 8
  clear ht hu hbS hn
  generalize t.sa = sa at *
  generalize t.sn = sn at *
  generalize t.sc = sc at *
  generalize u.sa = sb at *
  generalize u.sn = sm at *
  generalize u.sc = sd at *
  generalize t.uni = un at *
  generalize u.uni = vn at *
  generalize t.all = al at *
  generalize u.all = bl at *
  have HEQ : Hid (∀ W, Below w.heap.size w W → Calls Try.prog 29 #[.slice sa sn sc, .slice sb sm sd] W fun e w' => e = .returned (.bool bS) ∧ Below W.heap.size W w') := HEQ0
  clear HEQ0
  have RT := (Row.new w 33 (tcells t)).alloc (.cells (tcells u).toArray 33)
  have RU := two_newR w (.cells (tcells t).toArray 33) 33 (tcells u)
  have BX := bt (ba w (.cells (tcells t).toArray 33)) (ba _ (.cells (tcells u).toArray 33))
  obtain ⟨b0, h0⟩ : ∃ b, (un == vn) = b := ⟨_, rfl⟩
  obtain ⟨b1, h1⟩ : ∃ b, (al == bl) = b := ⟨_, rfl⟩
  rw [h0, h1]
  cases bN
  · go_enter Try.func12, Try.ntmps12
    go_wp2_with (first
        | (go_at_call 29; have kk := hb1; refine (HEQ.out _ bW).mono ?_; rintro e w2 ⟨rfl, hb2⟩)
        | (have kk := hb1; refine ldQ (.tmp 39) (by rfl) rfl _ _ u.pr rfl p2 ?_)
        | (have kk := hb1; refine ldQ (.tmp 37) (by rfl) rfl _ _ t.pr rfl p1 ?_)
        | (have kk := hb1; refine ldA (.tmp 32) (by rfl) rfl _ _ u.ad rfl a2 ?_)
        | (have kk := hb1; refine ldA (.tmp 30) (by rfl) rfl _ _ t.ad rfl a1 ?_)
        | (have kk := hb1; refine ldI (.tmp 25) (by rfl) rfl _ _ u.id rfl i2 ?_)
        | (have kk := hb1; refine ldI (.tmp 23) (by rfl) rfl _ _ t.id rfl i1 ?_)
        | (go_at_call 28; refine (HSN.out _).mono ?_; rintro e wr ⟨rfl, hb1⟩; have rT := RT.below hb1 RT.lt; have rU := RU.below hb1 RU.lt; have bW := bt BX hb1; have i1 := rT.rId2; have i2 := rU.rId2; have a1 := rT.rAd; have a2 := rU.rAd; have p1 := rT.rPr; have p2 := rU.rPr; have m7 : wr.cell? ⟨w.heap.size, 7, none⟩ = some (.bool un) := HU7.out _ _ rT; have n7 : wr.cell? ⟨w.heap.size + 1, 7, none⟩ = some (.bool vn) := HV7.out _ _ rU; have m8 : wr.cell? ⟨w.heap.size, 8, none⟩ = some (.bool al) := HU8.out _ _ rT; have n8 : wr.cell? ⟨w.heap.size + 1, 8, none⟩ = some (.bool bl) := HV8.out _ _ rU; have k67 : wr.cell? ⟨w.heap.size, 67, none⟩ = some (.slice sa sn sc) := HU67.out _ _ rT; have l67 : wr.cell? ⟨w.heap.size + 1, 67, none⟩ = some (.slice sb sm sd) := HV67.out _ _ rU; clear rT rU)
        | (refine ldT (.tmp 3) (by rfl) rfl (w.heap.size + 1) u rfl RU ?_)
        | (refine ldT (.tmp 2) (by rfl) rfl w.heap.size t rfl RT ?_))
    go_ret
    exact ⟨rfl, bW⟩
  · skip
    cases b0
    · go_enter Try.func12, Try.ntmps12
      go_wp2_with (first
          | (go_at_call 29; have kk := hb1; refine (HEQ.out _ bW).mono ?_; rintro e w2 ⟨rfl, hb2⟩)
          | (have kk := hb1; refine ldQ (.tmp 39) (by rfl) rfl _ _ u.pr rfl p2 ?_)
          | (have kk := hb1; refine ldQ (.tmp 37) (by rfl) rfl _ _ t.pr rfl p1 ?_)
          | (have kk := hb1; refine ldA (.tmp 32) (by rfl) rfl _ _ u.ad rfl a2 ?_)
          | (have kk := hb1; refine ldA (.tmp 30) (by rfl) rfl _ _ t.ad rfl a1 ?_)
          | (have kk := hb1; refine ldI (.tmp 25) (by rfl) rfl _ _ u.id rfl i2 ?_)
          | (have kk := hb1; refine ldI (.tmp 23) (by rfl) rfl _ _ t.id rfl i1 ?_)
          | (go_at_call 28; refine (HSN.out _).mono ?_; rintro e wr ⟨rfl, hb1⟩; have rT := RT.below hb1 RT.lt; have rU := RU.below hb1 RU.lt; have bW := bt BX hb1; have i1 := rT.rId2; have i2 := rU.rId2; have a1 := rT.rAd; have a2 := rU.rAd; have p1 := rT.rPr; have p2 := rU.rPr; have m7 : wr.cell? ⟨w.heap.size, 7, none⟩ = some (.bool un) := HU7.out _ _ rT; have n7 : wr.cell? ⟨w.heap.size + 1, 7, none⟩ = some (.bool vn) := HV7.out _ _ rU; have m8 : wr.cell? ⟨w.heap.size, 8, none⟩ = some (.bool al) := HU8.out _ _ rT; have n8 : wr.cell? ⟨w.heap.size + 1, 8, none⟩ = some (.bool bl) := HV8.out _ _ rU; have k67 : wr.cell? ⟨w.heap.size, 67, none⟩ = some (.slice sa sn sc) := HU67.out _ _ rT; have l67 : wr.cell? ⟨w.heap.size + 1, 67, none⟩ = some (.slice sb sm sd) := HV67.out _ _ rU; clear rT rU)
          | (refine ldT (.tmp 3) (by rfl) rfl (w.heap.size + 1) u rfl RU ?_)
          | (refine ldT (.tmp 2) (by rfl) rfl w.heap.size t rfl RT ?_))
      go_ret
      exact ⟨rfl, bW⟩
    · skip
      cases b1
      · go_enter Try.func12, Try.ntmps12
        go_wp2_with (first
            | (go_at_call 29; have kk := hb1; refine (HEQ.out _ bW).mono ?_; rintro e w2 ⟨rfl, hb2⟩)
            | (have kk := hb1; refine ldQ (.tmp 39) (by rfl) rfl _ _ u.pr rfl p2 ?_)
            | (have kk := hb1; refine ldQ (.tmp 37) (by rfl) rfl _ _ t.pr rfl p1 ?_)
            | (have kk := hb1; refine ldA (.tmp 32) (by rfl) rfl _ _ u.ad rfl a2 ?_)
            | (have kk := hb1; refine ldA (.tmp 30) (by rfl) rfl _ _ t.ad rfl a1 ?_)
            | (have kk := hb1; refine ldI (.tmp 25) (by rfl) rfl _ _ u.id rfl i2 ?_)
            | (have kk := hb1; refine ldI (.tmp 23) (by rfl) rfl _ _ t.id rfl i1 ?_)
            | (go_at_call 28; refine (HSN.out _).mono ?_; rintro e wr ⟨rfl, hb1⟩; have rT := RT.below hb1 RT.lt; have rU := RU.below hb1 RU.lt; have bW := bt BX hb1; have i1 := rT.rId2; have i2 := rU.rId2; have a1 := rT.rAd; have a2 := rU.rAd; have p1 := rT.rPr; have p2 := rU.rPr; have m7 : wr.cell? ⟨w.heap.size, 7, none⟩ = some (.bool un) := HU7.out _ _ rT; have n7 : wr.cell? ⟨w.heap.size + 1, 7, none⟩ = some (.bool vn) := HV7.out _ _ rU; have m8 : wr.cell? ⟨w.heap.size, 8, none⟩ = some (.bool al) := HU8.out _ _ rT; have n8 : wr.cell? ⟨w.heap.size + 1, 8, none⟩ = some (.bool bl) := HV8.out _ _ rU; have k67 : wr.cell? ⟨w.heap.size, 67, none⟩ = some (.slice sa sn sc) := HU67.out _ _ rT; have l67 : wr.cell? ⟨w.heap.size + 1, 67, none⟩ = some (.slice sb sm sd) := HV67.out _ _ rU; clear rT rU)
            | (refine ldT (.tmp 3) (by rfl) rfl (w.heap.size + 1) u rfl RU ?_)
            | (refine ldT (.tmp 2) (by rfl) rfl w.heap.size t rfl RT ?_))
        go_ret
        exact ⟨rfl, bW⟩
      · skip
        cases bI
        · go_enter Try.func12, Try.ntmps12
          go_wp2_with (first
              | (go_at_call 29; have kk := hb1; refine (HEQ.out _ bW).mono ?_; rintro e w2 ⟨rfl, hb2⟩)
              | (have kk := hb1; refine ldQ (.tmp 39) (by rfl) rfl _ _ u.pr rfl p2 ?_)
              | (have kk := hb1; refine ldQ (.tmp 37) (by rfl) rfl _ _ t.pr rfl p1 ?_)
              | (have kk := hb1; refine ldA (.tmp 32) (by rfl) rfl _ _ u.ad rfl a2 ?_)
              | (have kk := hb1; refine ldA (.tmp 30) (by rfl) rfl _ _ t.ad rfl a1 ?_)
              | (have kk := hb1; refine ldI (.tmp 25) (by rfl) rfl _ _ u.id rfl i2 ?_)
              | (have kk := hb1; refine ldI (.tmp 23) (by rfl) rfl _ _ t.id rfl i1 ?_)
              | (go_at_call 28; refine (HSN.out _).mono ?_; rintro e wr ⟨rfl, hb1⟩; have rT := RT.below hb1 RT.lt; have rU := RU.below hb1 RU.lt; have bW := bt BX hb1; have i1 := rT.rId2; have i2 := rU.rId2; have a1 := rT.rAd; have a2 := rU.rAd; have p1 := rT.rPr; have p2 := rU.rPr; have m7 : wr.cell? ⟨w.heap.size, 7, none⟩ = some (.bool un) := HU7.out _ _ rT; have n7 : wr.cell? ⟨w.heap.size + 1, 7, none⟩ = some (.bool vn) := HV7.out _ _ rU; have m8 : wr.cell? ⟨w.heap.size, 8, none⟩ = some (.bool al) := HU8.out _ _ rT; have n8 : wr.cell? ⟨w.heap.size + 1, 8, none⟩ = some (.bool bl) := HV8.out _ _ rU; have k67 : wr.cell? ⟨w.heap.size, 67, none⟩ = some (.slice sa sn sc) := HU67.out _ _ rT; have l67 : wr.cell? ⟨w.heap.size + 1, 67, none⟩ = some (.slice sb sm sd) := HV67.out _ _ rU; clear rT rU)
              | (refine ldT (.tmp 3) (by rfl) rfl (w.heap.size + 1) u rfl RU ?_)
              | (refine ldT (.tmp 2) (by rfl) rfl w.heap.size t rfl RT ?_))
          go_ret
          exact ⟨rfl, bW⟩
        · skip
          cases bA
          · go_enter Try.func12, Try.ntmps12
            go_wp2_with (first
                | (go_at_call 29; have kk := hb1; refine (HEQ.out _ bW).mono ?_; rintro e w2 ⟨rfl, hb2⟩)
                | (have kk := hb1; refine ldQ (.tmp 39) (by rfl) rfl _ _ u.pr rfl p2 ?_)
                | (have kk := hb1; refine ldQ (.tmp 37) (by rfl) rfl _ _ t.pr rfl p1 ?_)
                | (have kk := hb1; refine ldA (.tmp 32) (by rfl) rfl _ _ u.ad rfl a2 ?_)
                | (have kk := hb1; refine ldA (.tmp 30) (by rfl) rfl _ _ t.ad rfl a1 ?_)
                | (have kk := hb1; refine ldI (.tmp 25) (by rfl) rfl _ _ u.id rfl i2 ?_)
                | (have kk := hb1; refine ldI (.tmp 23) (by rfl) rfl _ _ t.id rfl i1 ?_)
                | (go_at_call 28; refine (HSN.out _).mono ?_; rintro e wr ⟨rfl, hb1⟩; have rT := RT.below hb1 RT.lt; have rU := RU.below hb1 RU.lt; have bW := bt BX hb1; have i1 := rT.rId2; have i2 := rU.rId2; have a1 := rT.rAd; have a2 := rU.rAd; have p1 := rT.rPr; have p2 := rU.rPr; have m7 : wr.cell? ⟨w.heap.size, 7, none⟩ = some (.bool un) := HU7.out _ _ rT; have n7 : wr.cell? ⟨w.heap.size + 1, 7, none⟩ = some (.bool vn) := HV7.out _ _ rU; have m8 : wr.cell? ⟨w.heap.size, 8, none⟩ = some (.bool al) := HU8.out _ _ rT; have n8 : wr.cell? ⟨w.heap.size + 1, 8, none⟩ = some (.bool bl) := HV8.out _ _ rU; have k67 : wr.cell? ⟨w.heap.size, 67, none⟩ = some (.slice sa sn sc) := HU67.out _ _ rT; have l67 : wr.cell? ⟨w.heap.size + 1, 67, none⟩ = some (.slice sb sm sd) := HV67.out _ _ rU; clear rT rU)
                | (refine ldT (.tmp 3) (by rfl) rfl (w.heap.size + 1) u rfl RU ?_)
                | (refine ldT (.tmp 2) (by rfl) rfl w.heap.size t rfl RT ?_))
            go_ret
            exact ⟨rfl, bW⟩
          · skip
            cases bQ
            · go_enter Try.func12, Try.ntmps12
              go_wp2_with (first
                  | (go_at_call 29; have kk := hb1; refine (HEQ.out _ bW).mono ?_; rintro e w2 ⟨rfl, hb2⟩)
                  | (have kk := hb1; refine ldQ (.tmp 39) (by rfl) rfl _ _ u.pr rfl p2 ?_)
                  | (have kk := hb1; refine ldQ (.tmp 37) (by rfl) rfl _ _ t.pr rfl p1 ?_)
                  | (have kk := hb1; refine ldA (.tmp 32) (by rfl) rfl _ _ u.ad rfl a2 ?_)
                  | (have kk := hb1; refine ldA (.tmp 30) (by rfl) rfl _ _ t.ad rfl a1 ?_)
                  | (have kk := hb1; refine ldI (.tmp 25) (by rfl) rfl _ _ u.id rfl i2 ?_)
                  | (have kk := hb1; refine ldI (.tmp 23) (by rfl) rfl _ _ t.id rfl i1 ?_)
                  | (go_at_call 28; refine (HSN.out _).mono ?_; rintro e wr ⟨rfl, hb1⟩; have rT := RT.below hb1 RT.lt; have rU := RU.below hb1 RU.lt; have bW := bt BX hb1; have i1 := rT.rId2; have i2 := rU.rId2; have a1 := rT.rAd; have a2 := rU.rAd; have p1 := rT.rPr; have p2 := rU.rPr; have m7 : wr.cell? ⟨w.heap.size, 7, none⟩ = some (.bool un) := HU7.out _ _ rT; have n7 : wr.cell? ⟨w.heap.size + 1, 7, none⟩ = some (.bool vn) := HV7.out _ _ rU; have m8 : wr.cell? ⟨w.heap.size, 8, none⟩ = some (.bool al) := HU8.out _ _ rT; have n8 : wr.cell? ⟨w.heap.size + 1, 8, none⟩ = some (.bool bl) := HV8.out _ _ rU; have k67 : wr.cell? ⟨w.heap.size, 67, none⟩ = some (.slice sa sn sc) := HU67.out _ _ rT; have l67 : wr.cell? ⟨w.heap.size + 1, 67, none⟩ = some (.slice sb sm sd) := HV67.out _ _ rU; clear rT rU)
                  | (refine ldT (.tmp 3) (by rfl) rfl (w.heap.size + 1) u rfl RU ?_)
                  | (refine ldT (.tmp 2) (by rfl) rfl w.heap.size t rfl RT ?_))
              go_ret
              exact ⟨rfl, bW⟩
            · skip
              go_enter Try.func12, Try.ntmps12
              go_wp2_with (first
                  | (go_at_call 29; have kk := hb1; refine (HEQ.out _ bW).mono ?_; rintro e w2 ⟨rfl, hb2⟩)
                  | (have kk := hb1; refine ldQ (.tmp 39) (by rfl) rfl _ _ u.pr rfl p2 ?_)
                  | (have kk := hb1; refine ldQ (.tmp 37) (by rfl) rfl _ _ t.pr rfl p1 ?_)
                  | (have kk := hb1; refine ldA (.tmp 32) (by rfl) rfl _ _ u.ad rfl a2 ?_)
                  | (have kk := hb1; refine ldA (.tmp 30) (by rfl) rfl _ _ t.ad rfl a1 ?_)
                  | (have kk := hb1; refine ldI (.tmp 25) (by rfl) rfl _ _ u.id rfl i2 ?_)
                  | (have kk := hb1; refine ldI (.tmp 23) (by rfl) rfl _ _ t.id rfl i1 ?_)
                  | (go_at_call 28; refine (HSN.out _).mono ?_; rintro e wr ⟨rfl, hb1⟩; have rT := RT.below hb1 RT.lt; have rU := RU.below hb1 RU.lt; have bW := bt BX hb1; have i1 := rT.rId2; have i2 := rU.rId2; have a1 := rT.rAd; have a2 := rU.rAd; have p1 := rT.rPr; have p2 := rU.rPr; have m7 : wr.cell? ⟨w.heap.size, 7, none⟩ = some (.bool un) := HU7.out _ _ rT; have n7 : wr.cell? ⟨w.heap.size + 1, 7, none⟩ = some (.bool vn) := HV7.out _ _ rU; have m8 : wr.cell? ⟨w.heap.size, 8, none⟩ = some (.bool al) := HU8.out _ _ rT; have n8 : wr.cell? ⟨w.heap.size + 1, 8, none⟩ = some (.bool bl) := HV8.out _ _ rU; have k67 : wr.cell? ⟨w.heap.size, 67, none⟩ = some (.slice sa sn sc) := HU67.out _ _ rT; have l67 : wr.cell? ⟨w.heap.size + 1, 67, none⟩ = some (.slice sb sm sd) := HV67.out _ _ rU; clear rT rU)
                  | (refine ldT (.tmp 3) (by rfl) rfl (w.heap.size + 1) u rfl RU ?_)
                  | (refine ldT (.tmp 2) (by rfl) rfl w.heap.size t rfl RT ?_))
              go_ret
              exact ⟨rfl, bt bW hb2⟩
end Go.Proofs.Ytognnfknbkedgaa

namespace Go.Proofs.Ytognnfknbkedgaa
open Go.RowKit
set_option linter.unusedSimpArgs false
set_option maxRecDepth 20000

theorem Id8.lit (i : Id8) : ∃ b0 b1 b2 b3 b4 b5 b6 b7, i.l = [b0, b1, b2, b3, b4, b5, b6, b7] := by
  obtain ⟨l, hl⟩ := i
  match l, hl with
  | [b0, b1, b2, b3, b4, b5, b6, b7], _ => exact ⟨b0, b1, b2, b3, b4, b5, b6, b7, rfl⟩
theorem tid_get (t : Tl) (k : Nat) (hk : k < 8) : (tcells t)[9 + k]? = (icells t.id)[k]? := by
  unfold tcells
  rw [List.getElem?_append_right (by simp [tnum]), List.getElem?_append_left (by simp [tnum, icells_len]; omega)]
  congr 1
  simp [tnum]
theorem fitsU_fin (t : Tl) (w : World) (hall : t.all = false) (hmet : t.met ≠ 65535) (hnob : nobB t.id = false) :
    Calls Try.prog 40 #[.agg (tcells t).toArray] w fun e w' => e = .returned (.bool true) ∧ Below w.heap.size w w' := by
  have T8 : (tcells t)[8]? = some (.bool false) := by rw [← hall]; rfl
  have T5 : (tcells t)[5]? = some (.int .u16 (t.met : Int)) := rfl
  have HN := nobody_any t.id
  rw [hnob] at HN
  have hm : ((t.met : Int) == 65535) = false := by simp; omega
  obtain ⟨b0, b1, b2, b3, b4, b5, b6, b7, hi⟩ := t.id.lit
  have ei : icells t.id = [.int .u8 b0.toNat, .int .u8 b1.toNat, .int .u8 b2.toNat, .int .u8 b3.toNat, .int .u8 b4.toNat, .int .u8 b5.toNat, .int .u8 b6.toNat, .int .u8 b7.toNat] := by unfold icells; rw [hi]; rfl
  have G := tid_get t
  rw [ei] at HN G
  have T9 := G 0 (by decide)
  have T10 := G 1 (by decide)
  have T11 := G 2 (by decide)
  have T12 := G 3 (by decide)
  have T13 := G 4 (by decide)
  have T14 := G 5 (by decide)
  have T15 := G 6 (by decide)
  have T16 := G 7 (by decide)
  simp only [Nat.reduceAdd, List.getElem?_cons_zero, List.getElem?_cons_succ] at T9 T10 T11 T12 T13 T14 T15 T16
  generalize t.met = m at *
  clear hall hmet hnob ei hi G
  go_enter Try.func40, Try.ntmps40
  go_wp2_with (go_at_call 70; refine (HN _).mono ?_; rintro e w1 ⟨rfl, hb1⟩)
  go_ret
  exact ⟨rfl, bt (ba _ _) hb1⟩
theorem fits_8 (t : Tl) (w : World) (hy : t.ty = 8) (hU : ∀ W, Calls Try.prog 40 #[.agg (tcells t).toArray] W fun e w' => e = .returned (.bool true) ∧ Below W.heap.size W w') :
    Calls Try.prog 23 #[.agg (tcells t).toArray] w fun e w' => e = .returned (.bool true) ∧ Below w.heap.size w w' := by
  have RT := Row.new w 33 (tcells t)
  have T0 : (tcells t)[0]? = some (.int .u8 8) := by show some (Value.int .u8 (t.ty : Int)) = _; rw [hy]; rfl
  clear hy
  go_enter Try.func23, Try.ntmps23
  go_wp2_with (first
    | (go_at_call 40; refine (hU _).mono ?_; rintro e w1 ⟨rfl, hb1⟩)
    | (refine ldT (.tmp 1) (by rfl) rfl w.heap.size t rfl RT ?_))
  go_ret
  exact ⟨rfl, bt (ba _ _) hb1⟩
end Go.Proofs.Ytognnfknbkedgaa
