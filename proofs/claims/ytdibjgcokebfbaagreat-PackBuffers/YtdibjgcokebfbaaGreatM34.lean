/-
  The law PackBuffers returns true for every address, every size, every slices of Tlvs and every bools: what waits in a Buffer is what was added, and Flush lays it as the document does. No condition.
-/
import Derived.Test.YtdibjgcokebfbaaGreatM33
import Derived.Test.YtdibjgcokebfbaaGreatM32
namespace Go.Proofs.YtdibjgcokebfbaaGreat
open Go.RowKit
set_option linter.unusedSimpArgs false
set_option linter.unusedVariables false
set_option maxRecDepth 20000
theorem own_same {w w' : World} {B : Nat} {e : TypeId} {s : Nat} {v : Value} {n : Nat} {xs : List Value} (h : w.ownsRow B e s v n xs) (hk : ∀ k, v.ownBlock = some k → w'.heap[k]? = w.heap[k]?) : w'.ownsRow B e s v n xs := by
  refine ⟨h.1, ?_⟩
  rcases h.2 with h1 | ⟨g, cap, cur, hv, hB, hh, hr⟩
  · exact .inl h1
  · exact .inr ⟨g, cap, cur, hv, hB, (hk g (by rw [hv]; rfl)).trans hh, hr⟩
/-- Tlvs behind others of the call's own, from any slice. -/
theorem append_us {ops : Array Oper} {rest : List Oper} {o : Oper} {a : Act} {w : World} {Q : Exit → Act → World → Prop} (hgd : o.guard = none) (s x : Operand)
    (ho : o.op = .call { callee := .builtin .append, args := #[s, x], argTypes := #[24, 24] })
    (base : Nat) (v : Value) (n : Nat) (ts : List Tl) (hs : a.eval s = v) (hown : w.ownsRow base 45 68 v n (tcs ts))
    (al : Option Addr) (m c : Nat) (us : List Tl) (hx : a.eval x = .slice al m c) (hT : TlW w al m us) (hal : al = none → m = 0 ∧ c = 0) (hn : n + m ≤ 1000000) (hbase : base ≤ w.heap.size)
    (h : ∀ v' w', w'.ownsRow base 45 68 v' (n + m) (tcs (ts ++ us)) → w.grownBy w' v.ownBlock → (v'.ownBlock = v.ownBlock ∨ v'.ownBlock = some w.heap.size) → wpList Tryz.prog ops Q rest (a.put o.dst v') w') : wpList Tryz.prog ops Q (o :: rest) a w := by
  obtain ⟨i0, hi, hz0, hz1, hz2⟩ := info_parts infoT
  have h1 : ∀ u ∈ tcs us, u.oneCell' = true := by
    intro u hu
    unfold tcs at hu
    obtain ⟨t, _, ht⟩ := List.mem_flatMap.1 hu
    exact tcells_one t u ht
  cases al with
  | some ad =>
    exact wpList_append_own_at w hgd s x 24 ho base 45 i0 (.agg (tcells zeroT).toArray) 68 112 Tryz.underlying24 hi hz0 hz1 hz2 rfl (by decide) v n (tcs ts) hs hown ad m c (tcs us) hx (by rw [tcs_len, hT.len]) hT.cells h1 (by unfold maxLen; omega) (by omega) hbase (fun v' w' h1 h2 _ h4 => h v' w' (by rw [tcs_append]; exact h1) h2 h4)
  | none =>
    obtain ⟨rfl, rfl⟩ := hal rfl
    have hk : us = [] := List.eq_nil_of_length_eq_zero hT.len
    subst hk
    have hrun := run_append_owned_none (P := Tryz.prog) (w := w) base 24 o.type 45 i0 68 Tryz.underlying24 hi v n (tcs ts) hown
    have h2 := h v w (by rw [List.append_nil]; exact hown) (World.grownBy.refl _ _) (.inl rfl)
    refine wpList_plain hgd fun K hK => ?_
    unfold Oper.wp execOp
    simp only [ho, resolve, invoke, builtin, Sem.run_bind, Sem.run_pure, Result.andThen_ok, List.map_toArray, List.map_cons, List.map_nil, hs, hx, hrun]
    exact hK _ _ h2
/-- A slice of Tlvs that was handed in. -/
structure Lt where
  a : Option Addr
  n : Nat
  c : Nat
  ts : List Tl
structure Lt.ok (w : World) (x : Lt) : Prop where
  tl : TlW w x.a x.n x.ts
  bare : x.a = none → x.n = 0 ∧ x.c = 0
  fit : ∀ t ∈ x.ts, TFit t.key
  small : x.n ≤ 9223372036854775807
/-- A slice of slices of Tlvs. -/
structure LlW (w : World) (ad : Option Addr) (n : Nat) (l : List Lt) : Prop where
  len : l.length = n
  lies : n = 0 ∨ ∃ g o, ad = some ⟨g, o, none⟩ ∧ g < w.heap.size ∧ ∀ (j : Nat) (x : Lt), l[j]? = some x → w.cell? ⟨g, o + j, none⟩ = some (.slice x.a x.n x.c)
  each : ∀ x ∈ l, x.ok w
/-- A slice of bools. -/
structure BlW (w : World) (ad : Option Addr) (n : Nat) (l : List Bool) : Prop where
  len : l.length = n
  lies : n = 0 ∨ ∃ g o, ad = some ⟨g, o, none⟩ ∧ g < w.heap.size ∧ ∀ (j : Nat) (x : Bool), l[j]? = some x → w.cell? ⟨g, o + j, none⟩ = some (.bool x)
/-- Where the rounds stand: the Buffer holds ts, the law ws; they tell the same. -/
structure PbI (w : World) (src : Ad) (mtu : Int) (B : Nat) (W : World) (v wv : Value) (ts ws : List Tl) : Prop where
  buf : BufAt W (w.heap.size + 1) B src mtu v ts
  own : W.ownsRow (w.heap.size + 1) 45 68 wv ws.length (tcs ws)
  apart : ∀ k, wv.ownBlock = some k → some k ≠ v.ownBlock
  keys : ts.map Tl.key = ws.map Tl.key
  good : ∀ t ∈ ws, TSrc w t ∧ TFit t.key ∧ t.sn ≤ 200
  box : Row W w.heap.size 23 (acells src)
  bel : Below w.heap.size w W
variable {a : Option Addr} {m c : Nat} {w : World} {src : Ad} {mtu : Int} {B : Nat} {W W' : World} {v wv : Value} {ts ws : List Tl}
theorem PbI.new (hB : w.heap.size + 1 ≤ B) (hr : Row W B 98 (bfc src mtu (.slice none 0 0))) (hx : Row W w.heap.size 23 (acells src)) (hb : Below w.heap.size w W) : PbI w src mtu B W (.slice none 0 0) (.slice none 0 0) [] [] :=
  ⟨.new hB hr, World.ownsRow_nil _ _ _ _, (fun _ h => by cases h), rfl, (fun _ h => by cases h), hx, hb⟩
theorem PbI.below (h : PbI w src mtu B W v wv ts ws) (hb : Below W.heap.size W W') : PbI w src mtu B W' v wv ts ws :=
  ⟨h.buf.below hb, own_keep h.own (grownBy_below none hb) (.inr rfl), h.apart, h.keys, h.good, h.box.below hb h.box.lt, bt h.bel hb⟩
theorem PbI.kps {v' : Value} {vs us : List Tl} (h : PbI w src mtu B W v wv ts ws) (hb : BufAt W' (w.heap.size + 1) B src mtu v' (ts ++ vs)) (hk : Kps W W' B v v') :
    (∀ k, wv.ownBlock = some k → some k ≠ v'.ownBlock) ∧ W'.ownsRow (w.heap.size + 1) 45 68 wv ws.length (tcs ws) ∧ Row W' w.heap.size 23 (acells src) ∧ Below w.heap.size w W' := by
  have hB := hk.below h.buf
  have hne : ∀ k, wv.ownBlock = some k → k ≠ B := fun k e => fun q => own_ne h.own h.buf.row (by decide) (by rw [e, q])
  refine ⟨fun k e => (hk.block k (h.own.lt k e).2 (hne k e) (h.apart k e)).2, own_same h.own fun k e => (hk.block k (h.own.lt k e).2 (hne k e) (h.apart k e)).1, h.box.below hB (by omega), ?_⟩
  exact h.bel.trans ((hB.mono (Nat.le_succ _)))
theorem PbI.kept {v' : Value} (h : PbI w src mtu B W v wv ts ws) (hb : BufAt W' (w.heap.size + 1) B src mtu v' (ts ++ [])) (hk : Kps W W' B v v') : PbI w src mtu B W' v' wv ts ws := by
  obtain ⟨h1, h2, h3, h4⟩ := h.kps (us := []) hb hk
  rw [List.append_nil] at hb
  exact ⟨hb, h2, h1, h.keys, h.good, h3, h4⟩
theorem BufAt.grown {n : Nat} {row : Option Nat} (h : BufAt W n B src mtu v ts) (hg : W.grownBy W' row) (h1 : some B ≠ row) (h2 : v.ownBlock ≠ row ∨ row = none) (h3 : ∀ t ∈ ts, (Value.slice t.sa t.sn t.sc).ownBlock ≠ row ∨ row = none) : BufAt W' n B src mtu v ts :=
  ⟨h.ge, h.row.grown hg h1, own_keep h.own hg h2, fun t ht => own_keep (h.stms t ht) hg (h3 t ht)⟩
theorem PbI.added {W1 W2 : World} {v1 wv2 : Value} {vs us : List Tl} (h : PbI w src mtu B W v wv ts ws) (hb : BufAt W1 (w.heap.size + 1) B src mtu v1 (ts ++ vs)) (hk : Kps W W1 B v v1) (hkeys : vs.map Tl.key = us.map Tl.key) (hgood : ∀ t ∈ us, TSrc w t ∧ TFit t.key ∧ t.sn ≤ 200)
    (own2 : W2.ownsRow (w.heap.size + 1) 45 68 wv2 (ws.length + us.length) (tcs (ws ++ us))) (g2 : W1.grownBy W2 wv.ownBlock) (a2 : wv2.ownBlock = wv.ownBlock ∨ wv2.ownBlock = some W1.heap.size) : PbI w src mtu B W2 v1 wv2 (ts ++ vs) (ws ++ us) := by
  obtain ⟨h1, h2, h3, h4⟩ := h.kps (us := us) hb hk
  have hBn : some B ≠ wv.ownBlock := own_ne h2 hb.row (by decide)
  have hap : v1.ownBlock ≠ wv.ownBlock ∨ wv.ownBlock = none := by
    cases e : wv.ownBlock with
    | none => exact .inr rfl
    | some k => exact .inl fun q => h1 k e q.symm
  refine ⟨hb.grown g2 hBn hap fun t ht => own_apart (hb.stms t ht) h2 (by decide), ?_, ?_, ?_, ?_, ?_, ?_⟩
  · rw [List.length_append]; exact own2
  · intro k e
    rcases a2 with q | q
    · exact h1 k (q ▸ e)
    · rw [q] at e
      cases e
      intro q2
      have := (hb.own.lt _ q2.symm).2
      omega
  · rw [List.map_append, List.map_append, h.keys, hkeys]
  · intro t ht
    rcases List.mem_append.1 ht with q | q
    · exact h.good t q
    · exact hgood t q
  · refine h3.grown g2 fun e => ?_
    have := (h2.lt _ e.symm).1
    omega
  · exact h4.grown g2 h4.size fun k hk => by
      have := (h2.lt k hk).1
      omega
theorem PbI.flushed (h : PbI w src mtu B W v wv ts ws) (hg : W.grownBy W' (some B)) (hb : BufAt W' (w.heap.size + 1) B src mtu (.slice none 0 0) []) : PbI w src mtu B W' (.slice none 0 0) (.slice none 0 0) [] [] :=
  ⟨hb, World.ownsRow_nil _ _ _ _, (fun _ h => by cases h), rfl, (fun _ h => by cases h), h.box.grown hg (fun e => by cases e; have := h.buf.ge; omega), h.bel.grown hg h.bel.size fun k hk => by cases hk; have := h.buf.ge; omega⟩
theorem Ac.grown {Bs : Nat} {qs : List Part} (h : Ac Bs W v qs) (hg : W.grownBy W' (some B)) (hB : B < Bs) : Ac Bs W' v qs :=
  ⟨own_keep h.own hg (.inl fun e => by have := (h.own.lt _ e).1; omega), fun q hq => own_keep (h.bods q hq) hg (.inl fun e => by have := ((h.bods q hq).lt _ e).1; omega)⟩
theorem PbI.len (h : PbI w src mtu B W v wv ts ws) : ts.length = ws.length := by
  have := congrArg List.length h.keys
  simpa using this
theorem key_sn {n : Nat} {t : Tl} (h : Stms n W t) : t.sn = t.key.st.length := by
  have := h.1
  show t.sn = t.st.length
  simpa [wcells] using this.symm
/-- What Flush asks of what waits. -/
theorem PbI.fits (h : PbI w src mtu B W v wv ts ws) : ∀ t ∈ ts, TFit t.key ∧ t.sn ≤ 100000 := fun t ht => by
  have hm : t.key ∈ ws.map Tl.key := by rw [← h.keys]; exact List.mem_map.2 ⟨t, ht, rfl⟩
  obtain ⟨u, hu, e⟩ := List.mem_map.1 hm
  obtain ⟨h1, h2, h3⟩ := h.good u hu
  refine ⟨e ▸ h2, ?_⟩
  rw [key_sn (h.buf.stms t ht), ← e]
  have := h1.len
  show u.st.length ≤ _
  omega
theorem PbI.wtl (h : PbI w src mtu B W (v) (.slice a m c) ts ws) (hm : ws.length = m) : TlW W a m ws :=
  TlW.ofOwn (hm ▸ h.own) hm fun t ht => Src.below (h.good t ht).1 h.bel (Src.lt (h.good t ht).1)
theorem PbI.wfits (h : PbI w src mtu B W v wv ts ws) : ∀ t ∈ ws, TFit t.key ∧ t.sn ≤ 100000 := fun t ht => ⟨(h.good t ht).2.1, by have := (h.good t ht).2.2; omega⟩
end Go.Proofs.YtdibjgcokebfbaaGreat

namespace Go.Proofs.YtdibjgcokebfbaaGreat
open Go.RowKit
set_option linter.unusedSimpArgs false
set_option linter.unusedVariables false
set_option maxRecDepth 20000
theorem same_len {q : List Part} {n k : Nat} {l : List (List UInt8)} (h : n = q.length) (e : q.map Part.l = l) (hl : l.length ≤ k) : n ≤ k := by
  rw [← e, List.length_map] at hl
  omega
/-- What was copied stays where a Buffer is added to. -/
theorem addT {w : World} {src : Ad} {mtu : Int} {B : Nat} {w4 w5 : World} {v wv : Value} {ts ws : List Tl} {ca : Option Addr} {cc : Nat} {x : Lt} (P4 : PbI w src mtu B w4 v wv ts ws) (P5 : PbI w src mtu B w5 v wv ts ws) (own5 : w5.ownsRow w4.heap.size 45 68 (.slice ca x.n cc) x.n (tcs x.ts)) (hok : x.ok w) :
    ∀ W v', Kps w5 W B v v' → TlW W ca x.n x.ts := fun W v' hK => by
  have hb := (hK.below P5.buf)
  refine TlW.ofOwn (own_same own5 fun k e => (hK.block k (own5.lt k e).2 (fun q => ?_) (fun q => ?_)).1) hok.tl.len fun t ht => ?_
  · have := (own5.lt k e).1
    have := P4.buf.row.lt
    omega
  · have h1 := (own5.lt k e).1
    have h2 := (P4.buf.own.lt k q.symm).2
    omega
  · have h1 := Src.below (hok.tl.stms t ht) P5.bel (Src.lt (hok.tl.stms t ht))
    exact Src.below (hok.tl.stms t ht) (P5.bel.trans (hb.mono (Nat.le_succ _))) (Src.lt (hok.tl.stms t ht))
set_option maxHeartbeats 16000000 in
theorem bufs_walk (src : Ad) (mtu : Int) (ad : Option Addr) (n c : Nat) (L : List Lt) (fa : Option Addr) (fn fc : Nat) (F : List Bool) (w : World) (hL : LlW w ad n L) (hF : BlW w fa fn F) :
    Calls Tryz.prog 4 #[(Value.agg (acells src).toArray), .int .i64 mtu, .slice ad n c, .slice fa fn fc] w fun e w' => e = .returned (.bool true) ∧ Below w.heap.size w w' := by
  have RS := Row.new w 23 (acells src)
  have B0 := ba w (.cells (acells src).toArray 23)
  by_cases h1 : 200 < n
  · have h1' : (200 : Int) < (n : Int) := by omega
    clear hL hF h1
    go_enter Tryz.func4, Tryz.ntmps4
    go_wp2_with (go_at_call 6; refine (live7_any _).mono ?_; rintro e w9 ⟨rfl, b9⟩)
    go_ret
    exact ⟨rfl, bt B0 b9⟩
  have h1' : ¬ (200 : Int) < (n : Int) := by omega
  by_cases h2 : fn < n
  · have h2' : (fn : Int) < (n : Int) := by omega
    clear hL hF h1 h2
    go_enter Tryz.func4, Tryz.ntmps4
    go_wp2_with (go_at_call 6; refine (live7_any _).mono ?_; rintro e w9 ⟨rfl, b9⟩)
    go_ret
    exact ⟨rfl, bt B0 b9⟩
  have h2' : ¬ (fn : Int) < (n : Int) := by omega
  have HN := fun W => new7_any src mtu W
  have HP : Hid (∀ W, Calls Tryz.prog 8 #[(Value.agg (acells src).toArray), .int .i64 mtu, .slice none 0 0] W (Packd W (pakL src mtu []))) := fun W => rpack_any src mtu none 0 0 [] W (tlw_none W) (fun _ h => by cases h) (by decide)
  have hL0 : Hid (LlW w ad n L) := hL
  have hF0 : Hid (BlW w fa fn F) := hF
  have HS : Hid (n ≤ 200 ∧ n ≤ fn) := ⟨by omega, by omega⟩
  clear hL hF h1 h2
  obtain ⟨R, hR⟩ : ∃ R, pakL src mtu [] = R := ⟨_, rfl⟩
  rw [hR] at HN HP
  obtain ⟨pl, z⟩ := R
  dsimp only at HN
  clear hR
  by_cases hz : z = 0
  · subst hz
    go_enter Tryz.func4, Tryz.ntmps4
    go_wp2_with (first
      | (have kk := RS; refine ldA (.tmp 4) (by rfl) rfl w.heap.size 0 src rfl RS.range ?_)
      | (have kk := RS; go_at_call 14; refine (HN _).mono ?_; rintro e w1 (⟨q, _⟩ | ⟨-, B, rfl, hB, rB, b1⟩); exact absurd rfl q; have R1 := RS.below b1 RS.lt; have BB := bt B0 b1; clear RS kk)
      | (have kk := R1; refine ldA (.tmp 4) (by rfl) rfl w.heap.size 0 src rfl R1.range ?_)
      | (go_at_call 8; refine (HP.out _).mono ?_; rintro e w2 ⟨pa, pn, pc, qs, rfl, _, _, _, b2⟩; have P0 : PbI w src mtu B w2 _ _ [] [] := PbI.new (by simpa using hB) (rB.below b2 rB.lt) (R1.below b2 R1.lt) (bt BB b2); clear R1 rB b1 BB hB)
      | (go_at_call 10; refine (num7 _ _).mono ?_; rintro e w3 ⟨rfl, rfl⟩))
    go_loopw [13, 14] (fun wv i wr => ∃ (j : Nat) (v : Value) (ts ws : List Tl), j ≤ n ∧ i = .int .i64 j ∧ ws.length ≤ 200 * j ∧ PbI w src mtu B wr v wv ts ws) (fun _ i _ => n - (intOf i).toNat)
    case atStart => exact ⟨0, _, [], [], Nat.zero_le _, rfl, Nat.zero_le _, P0⟩
    case round =>
      obtain ⟨j, v, ts, ws, hj, rfl, hw, P⟩ := hrel
      rename World => W
      have HW : Hid (ws.length ≤ 200 * j) := hw
      clear hw P0
      obtain ⟨wa0, wc0, rfl⟩ := own_shape2 P.own
      by_cases hlt : j < n
      · have hlt' : (j : Int) < (n : Int) := by omega
        have hjl : j < L.length := by rw [hL0.out.len]; exact hlt
        obtain ⟨g, o, rfl, hg, hcell⟩ : ∃ g o, ad = some ⟨g, o, none⟩ ∧ g < w.heap.size ∧ ∀ (j : Nat) (x : Lt), L[j]? = some x → w.cell? ⟨g, o + j, none⟩ = some (.slice x.a x.n x.c) := hL0.out.lies.resolve_left (by omega)
        have hx := hcell j _ (List.getElem?_eq_getElem hjl)
        have hok := hL0.out.each L[j] (List.getElem_mem hjl)
        generalize L[j] = x at *
        clear hcell
        obtain ⟨Rx, hRx⟩ : ∃ R, pakL src mtu (x.ts.map Tl.key) = R := ⟨_, rfl⟩
        have c0 : W.cell? ⟨g, o + j, none⟩ = some (.slice x.a x.n x.c) := (P.bel.cell (p := ⟨g, o + j, none⟩) hg).trans hx
        have HX : Hid (w.cell? ⟨g, o + j, none⟩ = some (.slice x.a x.n x.c)) := hx
        clear hx
        go_upto_region 13 with (first
          | (go_at_call 6; refine (live7_any _).mono ?_; rintro e w9 ⟨rfl, b9⟩)
          | (have kk := c0; go_at_call 5; refine (huge_any x.a x.n x.c x.ts _ (hok.tl.below P.bel) hok.small).mono ?_; rintro e w3 (⟨rfl, HY, b3⟩ | ⟨rfl, b3⟩)))
        · have P3 := P.below b3
          obtain ⟨hX1, hX2⟩ := HY.out
          have HPx : Hid (∀ W, Below w.heap.size w W → Calls Tryz.prog 8 #[(Value.agg (acells src).toArray), .int .i64 mtu, .slice x.a x.n x.c] W (Packd W Rx)) := fun W hW => by
            rw [← hRx]
            exact rpack_any src mtu x.a x.n x.c x.ts W (hok.tl.below hW) (fun t ht => ⟨hok.fit t ht, by have := hX2 t ht; omega⟩) (by omega)
          clear P b3 HY c0
          obtain ⟨plx, zx⟩ := Rx
          refine wp_region_noPanic ?_
          refine wp_region_held_drew (S := fun W => PbI w src mtu B W v (.slice wa0 ws.length wc0) ts ws) (by kernel_rfl) (P3.below (bd _)) (fun hHeld => ?_)
          refine tL 0 rfl (yA src (fun w h => h.box.range) (by rfl) rfl rfl) ?_
          refine tA 1 ?_
          refine tA 2 ?_
          refine tA 3 ?_
          refine tA 4 ?_
          refine tA 5 ?_ (hv := by intro w hSw; (try dsimp only at hSw); have z3 := (hSw.bel.cell (p := ⟨g, o + j, none⟩) hg).trans HX.out; go_simp <;> with_reducible rfl)
          refine r1 6 fun K hK => ?_
          go_simp
          refine (HPx.out _ hHeld.bel).mono ?_
          rintro e w4 ⟨pa4, pn4, pc4, q4, rfl, _, _, _, b4⟩
          refine oK hK (by exact hHeld.below b4) fun hHeld => ?_
          clear hK K
          refine tA 7 ?_
          refine tA 8 ?_
          refine tA 9 ?_
          refine tA 10 ?_
          refine tA 11 ?_
          refine dN ?_
          refine NoPanic.normal ?_
          have P4 := hHeld
          have c4 : w4.cell? ⟨g, o + j, none⟩ = some (.slice x.a x.n x.c) := (P4.bel.cell (p := ⟨g, o + j, none⟩) hg).trans HX.out
          have hg4 : g < w4.heap.size := Nat.lt_of_lt_of_le hg P4.bel.size
          clear hHeld b4 P3 HPx
          by_cases hzx : zx = 0
          · subst hzx
            go_upto_region 18 with (first
                | (have kk := P4; at_builtin; refine append_us rfl (.tmp 81) (.tmp 85) rfl w4.heap.size _ 0 [] rfl (own_tl0 (Row.new w4 45 []) (Nat.le_refl _)) x.a x.n x.c x.ts rfl (hok.tl.below (bt P4.bel (ba _ _))) hok.bare (by omega) (by simp) ?_; intro v5 w5 own5 g5 a5; rw [Nat.zero_add, List.nil_append] at own5; obtain ⟨ca, cc, rfl⟩ := own_shape2 own5; have b5 : Below w4.heap.size w4 w5 := (ba w4 (.cells #[] 45)).grown g5 (by simp) (fun k hk => by cases hk; exact Nat.le_refl _); have P5 := P4.below b5; clear g5 a5 b5; have AD := add_any w5 _ B src mtu v ts ca x.n cc x.ts P5.buf hok.tl.len (addT P4 P5 own5 hok) (fun t ht => ⟨hok.fit t ht, by have := hX2 t ht; omega⟩) (by omega) (by rw [P5.len]; have := HW.out; have := HS.out.1; omega); rw [hRx] at AD; clear P4 kk)
                | (have kk := AD; go_at_call 15; refine AD.mono ?_; rintro e w6 ⟨rfl, v6, vs, B6, k6, K6⟩; clear AD kk; have k7 : Hid (vs.map Tl.key = x.ts.map Tl.key) := k6.trans (if_pos rfl); have c6 : w6.cell? ⟨g, o + j, none⟩ = some (.slice x.a x.n x.c) := ((P5.kps (us := []) B6 K6).2.2.2.cell (p := ⟨g, o + j, none⟩) hg).trans HX.out; clear k6 c4)
                | (go_at_call 10; refine (num7 _ _).mono ?_; rintro e w3 ⟨rfl, rfl⟩)
                | (have kk := K6; at_builtin; refine append_us rfl (.tmp 93) (.tmp 97) rfl (w.heap.size + 1) _ ws.length ws rfl (P5.kps (us := []) B6 K6).2.1 x.a x.n x.c x.ts rfl (hok.tl.below (P5.kps (us := []) B6 K6).2.2.2) hok.bare (by have := HW.out; have := HS.out.1; omega) (by have := B6.ge; have := B6.row.lt; omega) ?_; intro v7 w7 own7 g7 a7; have P7 := P5.added B6 K6 k7.out (fun t ht => ⟨hok.tl.stms t ht, hok.fit t ht, hX2 t ht⟩) (by rw [hok.tl.len]; exact own7) g7 a7; clear kk))
            obtain ⟨wa, wc, rfl⟩ := own_shape2 own7
            have hlen7 : (ts ++ vs).length = ws.length + x.n := by rw [P7.len, List.length_append, hok.tl.len]
            have hws7 : (ws ++ x.ts).length = ws.length + x.n := by rw [List.length_append, hok.tl.len]
            have HW7 : Hid ((ws ++ x.ts).length ≤ 200 * (j + 1)) := by show _ ≤ _; rw [hws7]; have := HW.out; omega
            clear own7 g7 a7 P5 B6 K6 k7 c6 own5 hX2 hok HX hRx
            generalize ts ++ vs = ts7 at *
            generalize ws ++ x.ts = ws7 at *
            generalize ws.length + x.n = wn at *
            replace hlen7 : Hid (ts7.length = wn) := hlen7
            replace hws7 : Hid (ws7.length = wn) := hws7
            clear HP HN
            have HW0 : Hid (ws7.length ≤ 40000) := by have := HW7.out; have := HS.out.1; show _ ≤ _; omega
            have LN : Calls Tryz.prog 16 #[.pointer (some ⟨B, 0, none⟩)] w7 fun e w' => e = .returned (.int .i64 (wn : Nat)) ∧ w7 = w' := by have q := len7_any w7 _ B _ _ _ _ P7.buf; rw [hlen7.out] at q; exact q
            obtain ⟨fg, fo, rfl, hfg, hfc⟩ : ∃ g o, fa = some ⟨g, o, none⟩ ∧ g < w.heap.size ∧ ∀ (j : Nat) (x : Bool), F[j]? = some x → w.cell? ⟨g, o + j, none⟩ = some (.bool x) := hF0.out.lies.resolve_left (by have := HS.out; omega)
            have hjf : j < F.length := by rw [hF0.out.len]; have := HS.out; omega
            have hfj : (j : Int) < (fn : Int) := by have := HS.out; omega
            have cf : w7.cell? ⟨fg, fo + j, none⟩ = some (.bool F[j]) := (P7.bel.cell (p := ⟨fg, fo + j, none⟩) hfg).trans (hfc j _ (List.getElem?_eq_getElem hjf))
            generalize F[j] = fb at *
            clear hfc
            cases fb with
            | false =>
              go_wp2_with (have kk := LN; go_at_call 16; refine LN.mono ?_; rintro e w8 ⟨rfl, rfl⟩; clear LN kk)
              go_roundw
              case rel => exact ⟨j + 1, _, _, _, by omega, by go_num, HW7.out, P7⟩
              case measure => simp [intOf]; omega
            | true =>
              obtain ⟨Rf, hRf⟩ : ∃ R, pakL src mtu (ws7.map Tl.key) = R := ⟨_, rfl⟩
              have HPf := rpack_any src mtu wa wn wc ws7 w7 (P7.wtl hws7.out) P7.wfits (by rw [← hws7.out]; have := HW0.out; omega)
              have hnum : Rf.1.length ≤ 100000 := by have := pakL_num src mtu (ws7.map Tl.key); rw [hRf, List.length_map] at this; have := HW0.out; omega
              have HFl : Hid (∀ W, PbI w src mtu B W v6 (.slice wa wn wc) ts7 ws7 → Calls Tryz.prog 17 #[.pointer (some ⟨B, 0, none⟩)] W (Flushd W (w.heap.size + 1) B src mtu Rf.1)) := fun W hW => by
                have q := flush_any W _ B src mtu v6 ts7 hW.buf hW.fits (by rw [hlen7.out, ← hws7.out]; have := HW0.out; omega)
                rw [hW.keys, hRf] at q
                exact q
              rw [hRf] at HPf
              clear hRf
              obtain ⟨plf, zf⟩ := Rf
              dsimp only at hnum HFl
              have LZ := fun W (hW : BufAt W (w.heap.size + 1) B src mtu (.slice none 0 0) []) => len7_any W _ B _ _ _ _ hW
              go_wp2_with (first
                | (have kk := LN; go_at_call 16; refine LN.mono ?_; rintro e w8 ⟨rfl, rfl⟩; clear LN kk; have R7 := P7.box)
                | (have kk := R7; refine ldA (.tmp 4) (by rfl) rfl w.heap.size 0 src rfl R7.range ?_)
                | (have kk := R7; go_at_call 8; refine HPf.mono ?_; rintro e w8 ⟨qa, qn, qc, q2, rfl, e2, n2, ac2, b8⟩; have N2 : Hid (q2.map Part.l = plf ∧ qn = q2.length) := ⟨e2, n2⟩; clear e2 n2; have P8 := P7.below b8; have hBs := P7.buf.row.lt; clear R7 kk HPf P7)
                | (have kk := P8; go_at_call 17; refine (HFl.out _ P8).mono ?_; rintro e w9 ⟨sa, sn, sc, q1, rfl, e1, n1, ac1, B9, g9⟩; have P9 := P8.flushed g9 B9; have SM := rsame7_yes sa sn sc q1 qa qn qc q2 _ _ w9 ac1 (ac2.grown g9 hBs) n1 N2.out.2 (e1.trans N2.out.1.symm) (same_len n1 e1 hnum); clear P8 kk g9 ac1 ac2 N2 n1 e1 B9)
                | (have kk := SM; go_at_call 9; refine SM.mono ?_; rintro e w10 ⟨rfl, b10⟩; have P10 := P9.below b10; clear SM kk P9)
                | (have kk := P10; go_at_call 16; refine (LZ _ P10.buf).mono ?_; rintro e w11 ⟨rfl, rfl⟩; clear kk))
              go_roundw
              case rel => exact ⟨j + 1, _, [], [], by omega, by go_num, by simp, P10⟩
              case measure => simp [intOf]; omega
          · have hzx' : (zx == 0) = false := by simpa using hzx
            have HZX : Hid (zx ≠ 0) := hzx
            clear hzx
            go_upto_region 18 with (first
                | (have kk := P4; at_builtin; refine append_us rfl (.tmp 81) (.tmp 85) rfl w4.heap.size _ 0 [] rfl (own_tl0 (Row.new w4 45 []) (Nat.le_refl _)) x.a x.n x.c x.ts rfl (hok.tl.below (bt P4.bel (ba _ _))) hok.bare (by omega) (by simp) ?_; intro v5 w5 own5 g5 a5; rw [Nat.zero_add, List.nil_append] at own5; obtain ⟨ca, cc, rfl⟩ := own_shape2 own5; have b5 : Below w4.heap.size w4 w5 := (ba w4 (.cells #[] 45)).grown g5 (by simp) (fun k hk => by cases hk; exact Nat.le_refl _); have P5 := P4.below b5; clear g5 a5 b5; have AD := add_any w5 _ B src mtu v ts ca x.n cc x.ts P5.buf hok.tl.len (addT P4 P5 own5 hok) (fun t ht => ⟨hok.fit t ht, by have := hX2 t ht; omega⟩) (by omega) (by rw [P5.len]; have := HW.out; have := HS.out.1; omega); rw [hRx] at AD; clear P4 kk)
                | (have kk := AD; go_at_call 15; refine AD.mono ?_; rintro e w6 ⟨rfl, v6, vs, B6, k6, K6⟩; clear AD kk; have k7 : Hid (vs.map Tl.key = []) := k6.trans (if_neg HZX.out); have c6 : w6.cell? ⟨g, o + j, none⟩ = some (.slice x.a x.n x.c) := ((P5.kps (us := []) B6 K6).2.2.2.cell (p := ⟨g, o + j, none⟩) hg).trans HX.out; clear k6 c4)
                | (go_at_call 10; refine (num7 _ _).mono ?_; rintro e w3 ⟨rfl, rfl⟩)
                )
            have hvs : vs = [] := by have := k7.out; simpa using this
            subst hvs
            have P7 := P5.kept B6 K6
            have hlen7 := P7.len
            have HW7 : Hid (ws.length ≤ 200 * (j + 1)) := by show _ ≤ _; have := HW.out; omega
            clear P5 B6 K6 k7 c6 own5 hX2 hok HX hRx HZX
            generalize hws7 : ws.length = wn at *
            generalize ws = ws7 at *
            generalize ts = ts7 at *
            generalize wa0 = wa at *
            generalize wc0 = wc at *
            generalize w6 = w7 at *
            replace hlen7 : Hid (ts7.length = wn) := hlen7
            replace hws7 : Hid (ws7.length = wn) := hws7
            replace HW7 : Hid (ws7.length ≤ 200 * (j + 1)) := by show _ ≤ _; rw [hws7.out]; exact HW7.out
            clear HP HN
            have HW0 : Hid (ws7.length ≤ 40000) := by have := HW7.out; have := HS.out.1; show _ ≤ _; omega
            have LN : Calls Tryz.prog 16 #[.pointer (some ⟨B, 0, none⟩)] w7 fun e w' => e = .returned (.int .i64 (wn : Nat)) ∧ w7 = w' := by have q := len7_any w7 _ B _ _ _ _ P7.buf; rw [hlen7.out] at q; exact q
            obtain ⟨fg, fo, rfl, hfg, hfc⟩ : ∃ g o, fa = some ⟨g, o, none⟩ ∧ g < w.heap.size ∧ ∀ (j : Nat) (x : Bool), F[j]? = some x → w.cell? ⟨g, o + j, none⟩ = some (.bool x) := hF0.out.lies.resolve_left (by have := HS.out; omega)
            have hjf : j < F.length := by rw [hF0.out.len]; have := HS.out; omega
            have hfj : (j : Int) < (fn : Int) := by have := HS.out; omega
            have cf : w7.cell? ⟨fg, fo + j, none⟩ = some (.bool F[j]) := (P7.bel.cell (p := ⟨fg, fo + j, none⟩) hfg).trans (hfc j _ (List.getElem?_eq_getElem hjf))
            generalize F[j] = fb at *
            clear hfc
            cases fb with
            | false =>
              go_wp2_with (have kk := LN; go_at_call 16; refine LN.mono ?_; rintro e w8 ⟨rfl, rfl⟩; clear LN kk)
              go_roundw
              case rel => exact ⟨j + 1, _, _, _, by omega, by go_num, HW7.out, P7⟩
              case measure => simp [intOf]; omega
            | true =>
              obtain ⟨Rf, hRf⟩ : ∃ R, pakL src mtu (ws7.map Tl.key) = R := ⟨_, rfl⟩
              have HPf := rpack_any src mtu wa wn wc ws7 w7 (P7.wtl hws7.out) P7.wfits (by rw [← hws7.out]; have := HW0.out; omega)
              have hnum : Rf.1.length ≤ 100000 := by have := pakL_num src mtu (ws7.map Tl.key); rw [hRf, List.length_map] at this; have := HW0.out; omega
              have HFl : Hid (∀ W, PbI w src mtu B W v6 (.slice wa wn wc) ts7 ws7 → Calls Tryz.prog 17 #[.pointer (some ⟨B, 0, none⟩)] W (Flushd W (w.heap.size + 1) B src mtu Rf.1)) := fun W hW => by
                have q := flush_any W _ B src mtu v6 ts7 hW.buf hW.fits (by rw [hlen7.out, ← hws7.out]; have := HW0.out; omega)
                rw [hW.keys, hRf] at q
                exact q
              rw [hRf] at HPf
              clear hRf
              obtain ⟨plf, zf⟩ := Rf
              dsimp only at hnum HFl
              have LZ := fun W (hW : BufAt W (w.heap.size + 1) B src mtu (.slice none 0 0) []) => len7_any W _ B _ _ _ _ hW
              go_wp2_with (first
                | (have kk := LN; go_at_call 16; refine LN.mono ?_; rintro e w8 ⟨rfl, rfl⟩; clear LN kk; have R7 := P7.box)
                | (have kk := R7; refine ldA (.tmp 4) (by rfl) rfl w.heap.size 0 src rfl R7.range ?_)
                | (have kk := R7; go_at_call 8; refine HPf.mono ?_; rintro e w8 ⟨qa, qn, qc, q2, rfl, e2, n2, ac2, b8⟩; have N2 : Hid (q2.map Part.l = plf ∧ qn = q2.length) := ⟨e2, n2⟩; clear e2 n2; have P8 := P7.below b8; have hBs := P7.buf.row.lt; clear R7 kk HPf P7)
                | (have kk := P8; go_at_call 17; refine (HFl.out _ P8).mono ?_; rintro e w9 ⟨sa, sn, sc, q1, rfl, e1, n1, ac1, B9, g9⟩; have P9 := P8.flushed g9 B9; have SM := rsame7_yes sa sn sc q1 qa qn qc q2 _ _ w9 ac1 (ac2.grown g9 hBs) n1 N2.out.2 (e1.trans N2.out.1.symm) (same_len n1 e1 hnum); clear P8 kk g9 ac1 ac2 N2 n1 e1 B9)
                | (have kk := SM; go_at_call 9; refine SM.mono ?_; rintro e w10 ⟨rfl, b10⟩; have P10 := P9.below b10; clear SM kk P9)
                | (have kk := P10; go_at_call 16; refine (LZ _ P10.buf).mono ?_; rintro e w11 ⟨rfl, rfl⟩; clear kk))
              go_roundw
              case rel => exact ⟨j + 1, _, [], [], by omega, by go_num, by simp, P10⟩
              case measure => simp [intOf]; omega
        · have B9 := bt P.bel b3
          go_ret
          exact ⟨rfl, bt B9 b9⟩
      · obtain rfl : n = j := by omega
        have hlt' : ¬ (n : Int) < (n : Int) := by omega
        have BW := P.bel
        clear P HW hL0 hF0 HS HP HN
        go_wp2_with (first
          | (go_at_call 15; refine (add_none _ _ _ _).mono ?_; rintro e w8 ⟨rfl, rfl⟩)
          | (go_at_call 16; refine (len7_none _).mono ?_; rintro e w8 ⟨rfl, rfl⟩)
          | (go_at_call 17; refine (flush_none _).mono ?_; rintro e w8 ⟨rfl, rfl⟩)
          | (go_at_call 10; refine (num7 _ _).mono ?_; rintro e w8 ⟨rfl, rfl⟩)
          | (go_at_call 6; refine (live7_any _).mono ?_; rintro e w9 ⟨rfl, b9⟩))
        go_ret
        exact ⟨rfl, bt BW b9⟩
  · have hz' : (z == 0) = false := by simpa using hz
    have hz2 : (z != 0) = true := by simpa using hz
    have HZ : Hid (z ≠ 0) := hz
    clear hz hL0 hF0 HS
    go_enter Tryz.func4, Tryz.ntmps4
    go_wp2_with (first
      | (have kk := RS; refine ldA (.tmp 4) (by rfl) rfl w.heap.size 0 src rfl RS.range ?_)
      | (have kk := RS; go_at_call 14; refine (HN _).mono ?_; rintro e w1 (⟨-, rfl, b1⟩ | ⟨q, _⟩); rotate_left; exact absurd q HZ.out; have R1 := RS.below b1 RS.lt; have BB := bt B0 b1; clear RS kk)
      | (have kk := R1; refine ldA (.tmp 4) (by rfl) rfl w.heap.size 0 src rfl R1.range ?_)
      | (go_at_call 8; refine (HP.out _).mono ?_; rintro e w2 ⟨pa, pn, pc, qs, rfl, _, _, _, b2⟩; have B2 := bt BB b2; clear R1 b1 BB)
      | (go_at_call 10; refine (num7 _ _).mono ?_; rintro e w3 ⟨rfl, rfl⟩))
    go_loopw [14] (fun i wr => i = .int .i64 0 ∧ Below w.heap.size w wr) (fun _ _ => 0)
    case atStart => exact ⟨rfl, B2⟩
    case round =>
      obtain ⟨rfl, BW⟩ := hrel
      clear HP HN
      go_wp2_with (first
          | (go_at_call 15; refine (add_none _ _ _ _).mono ?_; rintro e w8 ⟨rfl, rfl⟩)
          | (go_at_call 16; refine (len7_none _).mono ?_; rintro e w8 ⟨rfl, rfl⟩)
          | (go_at_call 17; refine (flush_none _).mono ?_; rintro e w8 ⟨rfl, rfl⟩)
          | (go_at_call 10; refine (num7 _ _).mono ?_; rintro e w8 ⟨rfl, rfl⟩)
          | (go_at_call 6; refine (live7_any _).mono ?_; rintro e w9 ⟨rfl, b9⟩))
      all_goals (go_ret; exact ⟨rfl, bt BW b9⟩)
end Go.Proofs.YtdibjgcokebfbaaGreat

namespace Go.Proofs.YtdibjgcokebfbaaGreat
open Go.RowKit Go.ChangeShapes Go.WideShapes Go.ChangeAt Go.Deep
set_option maxRecDepth 20000
section
variable {H : Type} {enc : TypeId × Value → H} {w : World} {base : Nat} {held : Bool} {r : Reach} {b0 : Nat} {v : Value} {d : DataW H} {p : List MemPlace}
theorem cells_U : Tryz.prog.cellsOf 24 = 1 := by kernel_rfl
theorem cells_B1 : Tryz.prog.cellsOf 4 = 1 := by kernel_rfl
theorem lt_of {fuel : Nat} {cs : List Value} {x : DataW H × List MemPlace} (hf : DataW.trod enc Tryz.prog w base (fun _ => true) held fuel 24 cs = some x) : ∃ (ad : Option Addr) (len cap : Nat) (l : List Tl), cs = [.slice ad len cap] ∧ TlW w ad len l ∧ (∀ t ∈ l, TFit t.key) ∧ (ad = none → len = 0 ∧ cap = 0) ∧ len ≤ cap ∧ cap ≤ maxLen := by
  rcases open_slice Tryz.underlying24 hf with ⟨rfl, _⟩ | ⟨a, len, cap, m, n, D, Pl, rfl, _, hl, hmx, hmm, _, hx⟩
  · exact ⟨none, 0, 0, [], rfl, ⟨rfl, (fun h => absurd rfl h), fun _ h => by cases h⟩, (fun _ h => by cases h), (fun _ => ⟨rfl, rfl⟩), Nat.le_refl _, Nat.zero_le _⟩
  · by_cases h0 : len = 0
    · subst h0
      exact ⟨_, 0, cap, [], rfl, ⟨rfl, (fun h => absurd rfl h), fun _ h => by cases h⟩, (fun _ h => by cases h), (fun h => by cases h), Nat.zero_le _, by omega⟩
    · have hm : len ≤ m := by rw [hmm]; split <;> omega
      have each : ∀ i, i < len → ∃ q : Tl, (TSrc w q ∧ TFit q.key) ∧ ∀ k, k < 68 → w.cell? ((a.add (i * 68)).add k) = (tcells q)[k]? := fun i hi => by
        obtain ⟨cs', k1, k2⟩ := hx i (by omega)
        obtain ⟨q, rfl, hb1, hb2⟩ := tl_of k2
        rw [cells_T] at k1
        obtain ⟨_, _, hc⟩ := World.cells?_some k1
        exact ⟨q, ⟨hb1, hb2⟩, hc⟩
      have each' : ∀ i, ∃ q : Tl, i < len → (TSrc w q ∧ TFit q.key) ∧ ∀ k, k < 68 → w.cell? ((a.add (i * 68)).add k) = (tcells q)[k]? := fun i => by
        by_cases hi : i < len
        · obtain ⟨q, hq⟩ := each i hi
          exact ⟨q, fun _ => hq⟩
        · exact ⟨zeroT, fun h => absurd h hi⟩
      obtain ⟨f, hf'⟩ := Classical.axiomOfChoice each'
      obtain ⟨b, o, x⟩ := a
      have hx0 : x = none := by
        have h1 := (hf' 0 (by omega)).2 0 (by omega)
        cases x with
        | none => rfl
        | some y =>
          have h2 : (tcells (f 0))[0]? = some (.int .u8 ((f 0).ty : Int)) := rfl
          rw [h2] at h1
          have := World.cell?_spot h1
          simp [Addr.add] at this
      subst hx0
      have hc : ∀ j, j < len → ∀ k, k < 68 → w.cell? ⟨b, o + j * 68 + k, none⟩ = (tcells (f j))[k]? := fun j hj k hk => by
        have := (hf' j hj).2 k hk
        rw [add_add, Go.WideShapes.add_plain] at this
        rw [Nat.add_assoc]; exact this
      refine ⟨_, len, cap, (List.range len).map f, rfl, ⟨by simp, fun _ => ⟨b, o, rfl, ?_, fun j q hq => ?_⟩, ?_⟩, ?_, (fun h => by cases h), by omega, by omega⟩
      · have h1 := hc 0 (by omega) 0 (by omega)
        exact World.block_lt_of_cell? _ _ (h1.trans (rfl : (tcells (f 0))[0]? = some (.int .u8 ((f 0).ty : Int))))
      · rw [List.getElem?_map] at hq
        by_cases hj : j < len
        · rw [List.getElem?_range hj] at hq
          cases hq
          intro k u hu
          rw [hc j hj k (by have := (List.getElem?_eq_some_iff.1 hu).1; rwa [tcells_len] at this)]
          exact hu
        · rw [List.getElem?_eq_none (by simp; omega)] at hq
          cases hq
      · intro q hq
        obtain ⟨i, hi, rfl⟩ := List.mem_map.1 hq
        exact (hf' i (List.mem_range.1 hi)).1.1
      · intro q hq
        obtain ⟨i, hi, rfl⟩ := List.mem_map.1 hq
        exact (hf' i (List.mem_range.1 hi)).1.2
theorem lt_ok {fuel : Nat} {cs : List Value} {x : DataW H × List MemPlace} (hf : DataW.trod enc Tryz.prog w base (fun _ => true) held fuel 24 cs = some x) : ∃ y : Lt, cs = [.slice y.a y.n y.c] ∧ y.ok w := by
  obtain ⟨ad, len, cap, l, e, h1, h2, h3, h4, h5⟩ := lt_of hf
  exact ⟨⟨ad, len, cap, l⟩, e, h1, h3, h2, by unfold maxLen at h5; show len ≤ _; omega⟩
theorem openLL (hv : Value.okWide Tryz.prog w r b0 49 v) (h : DataW.Trod enc Tryz.prog w base (fun _ => true) held 49 v d p) : ∃ (ad : Option Addr) (len cap : Nat) (l : List Lt), v = .slice ad len cap ∧ LlW w ad len l := by
  obtain ⟨ad, len, cap, rfl⟩ := okWide_slice Tryz.underlying49 hv
  obtain ⟨fuel, hf⟩ := h
  rcases open_slice Tryz.underlying49 hf with ⟨hcs, _⟩ | ⟨a, len', cap', m, n, D, Pl, hcs, _, hl, hmx, hmm, _, hx⟩
  · simp [Value.cells] at hcs
    obtain ⟨rfl, rfl, rfl⟩ := hcs
    exact ⟨none, 0, 0, [], rfl, rfl, .inl rfl, fun _ h => by cases h⟩
  · simp [Value.cells] at hcs
    obtain ⟨rfl, rfl, rfl⟩ := hcs
    by_cases h0 : len = 0
    · subst h0
      exact ⟨_, 0, cap, [], rfl, rfl, .inl rfl, fun _ h => by cases h⟩
    · have hm : len ≤ m := by rw [hmm]; split <;> omega
      have each : ∀ i, ∃ y : Lt, i < len → y.ok w ∧ w.cell? (a.add i) = some (.slice y.a y.n y.c) := fun i => by
        by_cases hi : i < len
        · obtain ⟨cs', k1, k2⟩ := hx i (by omega)
          obtain ⟨y, rfl, hy⟩ := lt_ok k2
          rw [cells_U, Nat.mul_one] at k1
          obtain ⟨_, _, hc⟩ := World.cells?_some k1
          have := hc 0 (by decide)
          rw [add_add, Nat.add_zero] at this
          exact ⟨y, fun _ => ⟨hy, this⟩⟩
        · exact ⟨⟨none, 0, 0, []⟩, fun h => absurd h hi⟩
      obtain ⟨f, hf'⟩ := Classical.axiomOfChoice each
      obtain ⟨b, o, x⟩ := a
      have hx0 : x = none := by
        have h1 := (hf' 0 (by omega)).2
        cases x with
        | none => rfl
        | some y =>
          have := World.cell?_spot h1
          simp [Addr.add] at this
      subst hx0
      have hc : ∀ j, j < len → w.cell? ⟨b, o + j, none⟩ = some (.slice (f j).a (f j).n (f j).c) := fun j hj => by
        have := (hf' j hj).2
        rw [Go.WideShapes.add_plain] at this
        exact this
      refine ⟨_, len, cap, (List.range len).map f, rfl, by simp, .inr ⟨b, o, rfl, World.block_lt_of_cell? _ _ (hc 0 (by omega)), fun j y hy => ?_⟩, fun y hy => ?_⟩
      · rw [List.getElem?_map] at hy
        by_cases hj : j < len
        · rw [List.getElem?_range hj] at hy
          cases hy
          exact hc j hj
        · rw [List.getElem?_eq_none (by simp; omega)] at hy
          cases hy
      · obtain ⟨i, hi, rfl⟩ := List.mem_map.1 hy
        exact (hf' i (List.mem_range.1 hi)).1
theorem openBs (hv : Value.okWide Tryz.prog w r b0 50 v) (h : DataW.Trod enc Tryz.prog w base (fun _ => true) held 50 v d p) : ∃ (ad : Option Addr) (len cap : Nat) (l : List Bool), v = .slice ad len cap ∧ BlW w ad len l := by
  obtain ⟨ad, len, cap, rfl⟩ := okWide_slice Tryz.underlying50 hv
  obtain ⟨fuel, hf⟩ := h
  rcases open_slice Tryz.underlying50 hf with ⟨hcs, _⟩ | ⟨a, len', cap', m, n, D, Pl, hcs, _, hl, hmx, hmm, _, hx⟩
  · simp [Value.cells] at hcs
    obtain ⟨rfl, rfl, rfl⟩ := hcs
    exact ⟨none, 0, 0, [], rfl, rfl, .inl rfl⟩
  · simp [Value.cells] at hcs
    obtain ⟨rfl, rfl, rfl⟩ := hcs
    by_cases h0 : len = 0
    · subst h0
      exact ⟨_, 0, cap, [], rfl, rfl, .inl rfl⟩
    · have hm : len ≤ m := by rw [hmm]; split <;> omega
      have each : ∀ i, ∃ y : Bool, i < len → w.cell? (a.add i) = some (.bool y) := fun i => by
        by_cases hi : i < len
        · obtain ⟨cs', k1, k2⟩ := hx i (by omega)
          obtain ⟨y, rfl, _⟩ := DataW.trod_bool Tryz.underlying4 k2
          rw [cells_B1, Nat.mul_one] at k1
          obtain ⟨_, _, hc⟩ := World.cells?_some k1
          have := hc 0 (by decide)
          rw [add_add, Nat.add_zero] at this
          exact ⟨y, fun _ => this⟩
        · exact ⟨false, fun h => absurd h hi⟩
      obtain ⟨f, hf'⟩ := Classical.axiomOfChoice each
      obtain ⟨b, o, x⟩ := a
      have hx0 : x = none := by
        have h1 := hf' 0 (by omega)
        cases x with
        | none => rfl
        | some y =>
          have := World.cell?_spot h1
          simp [Addr.add] at this
      subst hx0
      have hc : ∀ j, j < len → w.cell? ⟨b, o + j, none⟩ = some (.bool (f j)) := fun j hj => by
        have := hf' j hj
        rw [Go.WideShapes.add_plain] at this
        exact this
      refine ⟨_, len, cap, (List.range len).map f, rfl, by simp, .inr ⟨b, o, rfl, World.block_lt_of_cell? _ _ (hc 0 (by omega)), fun j y hy => ?_⟩⟩
      rw [List.getElem?_map] at hy
      by_cases hj : j < len
      · rw [List.getElem?_range hj] at hy
        cases hy
        exact hc j hj
      · rw [List.getElem?_eq_none (by simp; omega)] at hy
        cases hy
end
end Go.Proofs.YtdibjgcokebfbaaGreat

namespace Go.Proofs.YtdibjgcokebfbaaGreat.packBuffers
open Go.ChangeShapes Go.WideShapes Go.ChangeAt Go.RowKit Go.Deep
open Go.ChangeMaps (open_string)
set_option maxRecDepth 100000 in
theorem lifted (os : Os) (started : os.Started) (H : Type) (enc : TypeId × Value → H) :
    ReturnsInHanded {} Tryz.checked os 4 .any (Rows.packBuffersSpec.pre6 enc Tryz.prog Tryz.f4 Rows.packBuffersRow.domain false) (Rows.packBuffersSpec.post enc Tryz.prog Tryz.f4 false true false false) := by
  refine returnsInHanded_of_change (C := Tryz.checked) own started (by kernel_rfl) Tryz.func4
    (ChangeSpec.witness6 (enc := enc) (C := Tryz.checked) false ⟨#[], #[(Value.agg (acells zeroA).toArray), .int .i64 0, .slice none 0 0, .slice none 0 0], []⟩ 8 (by kernel_rfl) (by kernel_rfl) (by kernel_rfl) (by kernel_rfl)) ?_
  intro W base args ds gs before hval0 hW hcnd _
  have hval : ∀ (j : Nat) t v, Tryz.f4.params[j]? = some t → args[j]? = some v → Value.okWide Tryz.prog W .any base t v := hval0
  have hW' := hW
  obtain ⟨p, q, hA0, hV, rfl, hfz, hnd⟩ := hW
  have hA : DataW.TrodAll enc Tryz.prog W 0 (fun _ => true) true Tryz.f4.params.toList args.toList ds p := hA0
  have kA := hA
  rw [Tryz.params4] at hA hval
  obtain ⟨v0, vs0, d0, ds0, p0, q0, hargs, rfl, rfl, h0, r0⟩ := trodAll_cons hA
  obtain ⟨v1, vs1, d1, ds1, p1, q1, rfl, rfl, rfl, h1, r1⟩ := trodAll_cons r0
  obtain ⟨v2, vs2, d2, ds2, p2, q2, rfl, rfl, rfl, h2, r2⟩ := trodAll_cons r1
  obtain ⟨v3, vs3, d3, ds3, p3, q3, rfl, rfl, rfl, h3, r3⟩ := trodAll_cons r2
  obtain ⟨rfl, rfl, rfl⟩ := trodAll_nil r3
  obtain rfl : args = #[v0, v1, v2, v3] := by cases args; simp_all
  obtain ⟨rfl, rfl⟩ := trodVars_none hV
  obtain ⟨a0, rfl⟩ := openA (hval 0 23 v0 rfl rfl) h0
  obtain ⟨a1, rfl, _, _, w1⟩ := open_int Tryz.underlying3 (hval 1 3 v1 rfl rfl) h1
  obtain ⟨ad2, n2, c2, l2, rfl, m2⟩ := openLL (hval 2 49 v2 rfl rfl) h2
  obtain ⟨ad3, n3, c3, l3, rfl, m3⟩ := openBs (hval 3 50 v3 rfl rfl) h3
  clear hA0 hval0
  refine (bufs_walk a0 a1 ad2 n2 c2 l2 ad3 n3 c3 l3 W m2 m3).mono fun e W' ⟨he, bel⟩ => ?_
  subst he
  exact ⟨_, rfl, _, _, _, [], _, [], hW', trodAll_mk1 (shut_bool Tryz.underlying4 _), all_stay laid_out bel _ _ _ _ (by kernel_rfl) kA, rfl, bel.frame _, fun h => by cases h⟩
theorem over : Rows.packBuffersRow.holds Tryz.pinned (OpenSpec.ofChange Rows.packBuffersSpec) :=
  OpenClaim.holds_of_wide 4 Tryz.f4 rfl rfl rfl rfl rfl rfl rfl ⟨rfl, rfl, rfl, rfl, rfl⟩ rfl rfl rfl rfl rfl (by kernel_rfl) Tryz.func4 (by kernel_rfl)
    (of_decide_eq_true (by kernel_rfl)) (by unfold Func.isWrapper; first | (rw [if_pos (by decide +kernel)]; kernel_rfl) | (rw [if_neg (by decide +kernel)]; exact ⟨rfl, rfl⟩))
    (fun os started H enc _ => lifted os started H enc)
end Go.Proofs.YtdibjgcokebfbaaGreat.packBuffers
namespace Go.Proofs.YtdibjgcokebfbaaGreat
/-- The statement. -/
theorem packBuffers_holds : Rows.PackBuffersSaid := packBuffers.over
#print axioms packBuffers_holds
end Go.Proofs.YtdibjgcokebfbaaGreat
