/-
  What holds in the rounds of Pack.
-/
import Derived.Test.YtognnfknbkedgaaM27
import Derived.Test.YtognnfknbkedgaaM26
namespace Go.Proofs.Ytognnfknbkedgaa
open Go.RowKit
set_option linter.unusedSimpArgs false
set_option maxRecDepth 20000

theorem infoS3 : (Try.prog.info? 40).map (fun i => (i.zero, i.size, i.bytes)) = some (some (.slice none 0 0), 1, 24) := by kernel_rfl
theorem svcells_one (qs : List Part) : ∀ u ∈ svcells qs, u.oneCell' = true := by
  intro u hu
  simp only [svcells, List.mem_map] at hu
  obtain ⟨q, _, rfl⟩ := hu
  rfl
section
variable {ops : Array Oper} {rest : List Oper} {op : Oper} {a : Act} {w : World} {Q : Exit → Act → World → Prop} {K : Act → World → Prop} {E : Prop}
theorem wp_appS (s x : Operand) (ho : op.op = .call { callee := .builtin .append, args := #[s, x], argTypes := #[48, 48] })
    (base : Nat) (v : Value) (n : Nat) (qs : List Part) (hs : a.eval s = v) (hown : w.ownsRow base 40 1 v n (svcells qs))
    (ad : Addr) (c : Nat) (q : Part) (hx : a.eval x = .slice (some ad) 1 c) (hq : Src w (some ad) 1 c (svcells [q]))
    (hbytes : n + 1 ≤ 1000000000) (hbase : base ≤ w.heap.size)
    (h : ∀ v' w', w'.ownsRow base 40 1 v' (n + 1) (svcells (qs ++ [q])) → w.grownBy w' v.ownBlock → K (a.put op.dst v') w') : Oper.wp Try.prog op a w K Q := by
  obtain ⟨i0, hi, hz0, hz1, hz2⟩ := info_parts infoS3
  refine wp_append_own w s x 48 ho base 40 i0 (.slice none 0 0) 1 24 Try.underlying48 hi hz0 hz1 hz2 rfl (by decide) v n (svcells qs) hs hown ad 1 c (svcells [q]) hx rfl (fun j u hu => hq.cell ad rfl j u hu) (svcells_one [q]) (by unfold maxLen; omega) (by omega) hbase (fun v' w' h1 h2 _ => h v' w' ?_ h2)
  have e : svcells (qs ++ [q]) = svcells qs ++ svcells [q] := by simp [svcells]
  rw [e]
  exact h1
theorem appS (hgd : op.guard = none) (s x : Operand) (ho : op.op = .call { callee := .builtin .append, args := #[s, x], argTypes := #[48, 48] })
    (base : Nat) (v : Value) (n : Nat) (qs : List Part) (hs : a.eval s = v) (hown : w.ownsRow base 40 1 v n (svcells qs))
    (ad : Addr) (c : Nat) (q : Part) (hx : a.eval x = .slice (some ad) 1 c) (hq : Src w (some ad) 1 c (svcells [q]))
    (hbytes : n + 1 ≤ 1000000000) (hbase : base ≤ w.heap.size)
    (h : ∀ v' w', w'.ownsRow base 40 1 v' (n + 1) (svcells (qs ++ [q])) → w.grownBy w' v.ownBlock → wpList Try.prog ops Q rest (a.put op.dst v') w') : wpList Try.prog ops Q (op :: rest) a w :=
  wpList_plain hgd fun _ hK => wp_appS s x ho base v n qs hs hown ad c q hx hq hbytes hbase fun v' w' h2 h3 => hK _ _ (h v' w' h2 h3)
theorem sAppS (s x : Operand) (hw : Region.wanted op (yielded ops a.tmps) = true) (ho : op.op = .call { callee := .builtin .append, args := #[s, x], argTypes := #[48, 48] })
    (base : Nat) (v : Value) (n : Nat) (qs : List Part) (hs : a.eval s = v) (hown : w.ownsRow base 40 1 v n (svcells qs))
    (ad : Addr) (c : Nat) (q : Part) (hx : a.eval x = .slice (some ad) 1 c) (hq : Src w (some ad) 1 c (svcells [q]))
    (hbytes : n + 1 ≤ 1000000000) (hbase : base ≤ w.heap.size)
    (h : ∀ v' w', w'.ownsRow base 40 1 v' (n + 1) (svcells (qs ++ [q])) → w.grownBy w' v.ownBlock → K (a.put op.dst v') w') : if Region.wanted op (yielded ops a.tmps) = true then Oper.wp Try.prog op a w K Q else E := by
  rw [if_pos hw]
  exact wp_appS s x ho base v n qs hs hown ad c q hx hq hbytes hbase h
end
/-- Packets in memory of the call's own. -/
structure Ac (B : Nat) (W : World) (v : Value) (qs : List Part) : Prop where
  own : W.ownsRow B 40 1 v qs.length (svcells qs)
  bods : ∀ q ∈ qs, W.ownsRow B 5 1 (.slice q.a q.n q.c) q.n (bcells q.l)
theorem Ac.nil (B : Nat) (W : World) : Ac B W (.slice none 0 0) [] := ⟨World.ownsRow_nil _ _ _ _, fun q hq => by cases hq⟩
theorem Ac.below {B : Nat} {W W' : World} {v : Value} {qs : List Part} (h : Ac B W v qs) (hb : Below W.heap.size W W') : Ac B W' v qs :=
  ⟨own_keep h.own (grownBy_below none hb) (.inr rfl), fun q hq => own_keep (h.bods q hq) (grownBy_below none hb) (.inr rfl)⟩
theorem Ac.app {B : Nat} {W W' : World} {v v' : Value} {qs : List Part} {q : Part} (h : Ac B W v qs) (hq : W.ownsRow B 5 1 (.slice q.a q.n q.c) q.n (bcells q.l)) (own' : W'.ownsRow B 40 1 v' (qs.length + 1) (svcells (qs ++ [q]))) (hg : W.grownBy W' v.ownBlock) : Ac B W' v' (qs ++ [q]) := by
  refine ⟨by simpa using own', fun p hp => ?_⟩
  have k : W.ownsRow B 5 1 (.slice p.a p.n p.c) p.n (bcells p.l) := by
    rcases List.mem_append.1 hp with h1 | h1
    · exact h.bods p h1
    · obtain rfl : p = q := by simpa using h1
      exact hq
  exact own_keep k hg (own_apart k h.own (by decide))
theorem Dr.outer {B B' m s : Nat} {W W' : World} {P : Nat} {d : DS} {a : Option Addr} {n c : Nat} {ps : List Pc} {v : Value} {xs : List Value} (h : Dr B W P d a n c ps) (ho : W.ownsRow B' 40 s v m xs) (hg : W.grownBy W' v.ownBlock) : Dr B W' P d a n c ps :=
  ⟨h.row.grown hg (own_ne ho h.row (by decide)), h.ge, own_keep h.own hg (own_apart h.own ho (by decide)), h.bods.keep hg (fun p hp => own_apart (h.bods p hp) ho (by decide)), h.keys⟩
/-- A packet under way is as long as may be. -/
structure DOk (d : DS) (mtu : Int) : Prop where
  ok : PkOk d.ps
  room : 0 ≤ d.room
  sum : (lenP d.ps : Int) + d.room = mtu - 4
theorem lenP_append (l m : List PK) : lenP (l ++ m) = lenP l + lenP m := by simp [lenP]
theorem lenP_ge (l : List PK) : 2 * l.length ≤ lenP l := by
  induction l with
  | nil => simp [lenP]
  | cons p l ih => simp [lenP] at *; omega
theorem adrE_len (a : Ad) : (hopK a).2.length ≤ 18 := by
  unfold hopK
  have := adrL_len a
  simp; omega
theorem witP_ok (o : TS) (k : TK) (h : TOk k) : PkOk (witP o k) ∧ lenP (witP o k) ≤ 1000 := by
  have hb := bodL_len h
  have hpz : ∀ p ∈ [pieK k], p.1 ≠ 0 ∧ p.2.length ≤ 255 := fun p hp => by
    simp at hp; subst hp
    refine ⟨?_, hb⟩
    unfold pieK
    rcases namB_cases h.nam with e | e | e | e | e | e | e <;> simp [e]
  have hr : ∀ p ∈ rtrP o k, p.1 ≠ 0 ∧ p.2.length ≤ 255 := fun p hp => by
    unfold rtrP at hp
    split at hp
    · simp at hp
    · simp at hp; subst hp; unfold rtrK; simp [k.id.len]
  have hh : ∀ p ∈ hopP o k, p.1 ≠ 0 ∧ p.2.length ≤ 255 := fun p hp => by
    unfold hopP at hp
    split at hp
    · simp at hp
    · simp at hp; subst hp; have := adrE_len k.ad; refine ⟨?_, by omega⟩; simp [hopK]
  have l1 : (rtrP o k).length ≤ 1 := by unfold rtrP; split <;> simp
  have l2 : (hopP o k).length ≤ 1 := by unfold hopP; split <;> simp
  have hall : PkOk (witP o k) := fun p hp => by
    unfold witP at hp
    rcases List.mem_append.1 hp with h1 | h1
    · split at h1
      · rcases List.mem_append.1 h1 with h2 | h2
        · exact hr p h2
        · exact hh p h2
      · simp at h1
    · exact hpz p h1
  refine ⟨hall, ?_⟩
  have len : ∀ l : List PK, PkOk l → lenP l ≤ 257 * l.length := fun l hl => by
    induction l with
    | nil => simp [lenP]
    | cons p l ih =>
      have := ih (fun q hq => hl q (by simp [hq]))
      have := (hl p (by simp)).2
      simp [lenP] at *
      omega
  have := len _ hall
  have : (witP o k).length ≤ 3 := by
    unfold witP
    split <;> simp <;> omega
  omega
theorem DOk.beg (src : Ad) {mtu : Int} (h : 64 ≤ mtu) : DOk (begD src mtu) mtu := ⟨(fun p hp => absurd hp List.not_mem_nil), (by show 0 ≤ mtu - 4; omega), (by show ((0 : Nat) : Int) + (mtu - 4) = mtu - 4; omega)⟩
theorem DOk.tak {d : DS} {mtu : Int} {k : TK} (h : DOk d mtu) (hk : TOk k) (hb : takB d k = true) : DOk (takD d k) mtu := by
  unfold takB at hb
  have hb' := of_decide_eq_true hb
  refine ⟨fun p hp => ?_, by show 0 ≤ d.room - _; omega, ?_⟩
  · rcases List.mem_append.1 hp with h1 | h1
    · exact h.ok p h1
    · exact (witP_ok d.o k hk).1 p h1
  · show ((lenP (d.ps ++ witP d.o k) : Nat) : Int) + (d.room - _) = _
    rw [lenP_append]
    have := h.sum
    omega
/-- What holds in a round. -/
structure Lp (w W : World) (src : Ad) (P : Nat) (d : DS) (a : Option Addr) (n c : Nat) (ps : List Pc) (v : Value) (qs : List Part) : Prop where
  bel : Below w.heap.size w W
  rS : Row W w.heap.size 26 (acells src)
  dr : Dr w.heap.size W P d a n c ps
  ac : Ac w.heap.size W v qs
section
variable {w W W' : World} {src : Ad} {P : Nat} {d : DS} {a : Option Addr} {n c : Nat} {ps : List Pc} {v : Value} {qs : List Part}
theorem Lp.below (h : Lp w W src P d a n c ps v qs) (hb : Below W.heap.size W W') : Lp w W' src P d a n c ps v qs := ⟨bt h.bel hb, h.rS.below hb h.rS.lt, h.dr.below hb, h.ac.below hb⟩
theorem Lp.taken {d' : DS} {a' : Option Addr} {n' c' : Nat} {ps' : List Pc} (h : Lp w W src P d a n c ps v qs) (hd : Dr w.heap.size W' P d' a' n' c' ps') (hf : Fr W W' P (Value.slice a n c).ownBlock) : Lp w W' src P d' a' n' c' ps' v qs :=
  ⟨hf.bel h.dr h.bel, hf.row h.dr h.rS (by decide) (by decide), hd, ⟨hf.own h.dr h.ac.own (by decide) (by decide), fun q hq => hf.own h.dr (h.ac.bods q hq) (by decide) (by decide)⟩⟩
theorem Lp.app {v' : Value} {q : Part} (h : Lp w W src P d a n c ps v qs) (hq : W.ownsRow w.heap.size 5 1 (.slice q.a q.n q.c) q.n (bcells q.l)) (own' : W'.ownsRow w.heap.size 40 1 v' (qs.length + 1) (svcells (qs ++ [q]))) (hg : W.grownBy W' v.ownBlock) : Lp w W' src P d a n c ps v' (qs ++ [q]) :=
  ⟨h.bel.grown hg h.bel.size (fun k hk => (h.ac.own.lt k hk).1), h.rS.grown hg (own_ne h.ac.own h.rS (by decide)), h.dr.outer h.ac.own hg, h.ac.app hq own' hg⟩
/-- A store into a block of Tlv that is the call's own. -/
theorem Lp.other {g' : Nat} {cs : List Value} (h : Lp w W src P d a n c ps v qs) (hg : W.grownBy W' (some g')) (hr : Row W g' 33 cs) (hge : w.heap.size ≤ g') : Lp w W' src P d a n c ps v qs :=
  ⟨h.bel.grown hg h.bel.size (fun k hk => by cases hk; exact hge), h.rS.grown hg (fun e => (h.rS.ne hr (by decide)) (Option.some.inj e)), ⟨h.dr.row.grown hg (fun e => (h.dr.row.ne hr (by decide)) (Option.some.inj e)), h.dr.ge, own_keep h.dr.own hg (.inl fun e => own_ne h.dr.own hr (by decide) e.symm), h.dr.bods.told hg hr (by decide), h.dr.keys⟩, ⟨own_keep h.ac.own hg (.inl fun e => own_ne h.ac.own hr (by decide) e.symm), fun q hq => own_keep (h.ac.bods q hq) hg (.inl fun e => own_ne (h.ac.bods q hq) hr (by decide) e.symm)⟩⟩
end
/-- What Pack answers. -/
def Packd (w : World) (r : List (List UInt8) × Int) (e : Ending) (w' : World) : Prop := ∃ a n c qs, e = .returned (.tuple #[.slice a n c, .int .i64 r.2]) ∧ qs.map Part.l = r.1 ∧ n = qs.length ∧ Ac w.heap.size w' (.slice a n c) qs ∧ Below w.heap.size w w'
theorem Packd.no {w w' : World} {z : Int} {r : List (List UInt8) × Int} (hr : r = ([], z)) (hb : Below w.heap.size w w') : Packd w r (.returned (.tuple #[.slice none 0 0, .int .i64 z])) w'   := ⟨Option.none, 0, 0, [], by rw [hr], by rw [hr]; rfl, rfl, Ac.nil _ _, hb⟩
end Go.Proofs.Ytognnfknbkedgaa

namespace Go.Proofs.Ytognnfknbkedgaa
open Go.RowKit
set_option linter.unusedSimpArgs false
set_option maxRecDepth 20000

theorem tkE_ok (l : List UInt8) (p k : Nat) (h : p + k ≤ l.length) : tkE l p 0 (k : Int) = 0 := by
  unfold tkE
  rw [if_neg (by simp), if_neg (by omega), if_pos (by omega)]
theorem tkB_ok (l : List UInt8) (p k : Nat) (h : p + k ≤ l.length) : tkB l p 0 (k : Int) = (l.drop p).take k := by
  unfold tkB
  rw [if_pos ⟨rfl, by omega, by omega⟩, Int.toNat_natCast]
theorem advk (l : List UInt8) (p k : Nat) (h : p + k ≤ l.length) : (⟨p, 0⟩ : RS).adv l (k : Int) = ⟨p + k, 0⟩ := by
  unfold RS.adv
  simp only
  rw [tkE_ok l p k h, tkB_ok l p k h]
  simp
  omega
theorem valk (l : List UInt8) (p k : Nat) (h : p + k ≤ l.length) : (⟨p, 0⟩ : RS).val l (k : Int) = nv ((l.drop p).take k) := by
  unfold RS.val
  simp only
  rw [tkB_ok l p k h]
theorem adv_1 (l : List UInt8) (p : Nat) (h : p + 1 ≤ l.length) : (⟨p, 0⟩ : RS).adv l 1 = ⟨p + 1, 0⟩ := advk l p 1 h
theorem adv_2 (l : List UInt8) (p : Nat) (h : p + 2 ≤ l.length) : (⟨p, 0⟩ : RS).adv l 2 = ⟨p + 2, 0⟩ := advk l p 2 h
theorem adv_8 (l : List UInt8) (p : Nat) (h : p + 8 ≤ l.length) : (⟨p, 0⟩ : RS).adv l 8 = ⟨p + 8, 0⟩ := advk l p 8 h
theorem val_1 (l : List UInt8) (p : Nat) (h : p + 1 ≤ l.length) : (⟨p, 0⟩ : RS).val l 1 = nv ((l.drop p).take 1) := valk l p 1 h
theorem val_2 (l : List UInt8) (p : Nat) (h : p + 2 ≤ l.length) : (⟨p, 0⟩ : RS).val l 2 = nv ((l.drop p).take 2) := valk l p 2 h
theorem hw_nv (n : Nat) (h : n < 65536) : nv (hw n) = n := by
  unfold hw be16 nv
  simp
  omega
theorem nv_one (n : Nat) (h : n < 256) : nv [UInt8.ofNat n] = n := by simp [nv]; omega
theorem nv_u8 (b : UInt8) : nv [b] = b.toNat := by simp [nv]
/-- The pieces within of nothing, of one. -/
theorem wiB_nil (ts l : List UInt8) (p : Nat) (h : l.length = p) : wiB ts l ⟨p, 0⟩ = true ∧ wiL ts l ⟨p, 0⟩ = [] := by
  unfold wiB wiL
  have : l.drop p = [] := List.drop_eq_nil_of_le (by omega)
  simp only [this, splL_nil]
  exact ⟨rfl, rfl⟩
theorem spl_in (t : UInt8) (b : List UInt8) (ht : t.toNat ≠ 0) (hb : b.length ≤ 255) : splL (inL t b) = ([(t, b)], 0) := by
  have e : (UInt8.ofNat b.length).toNat = b.length := by simp; omega
  unfold inL
  rw [splL_cons, if_neg ht]
  simp only
  rw [e, if_neg (by simp), List.take_of_length_le (Nat.le_refl _), List.drop_eq_nil_of_le (Nat.le_refl _), splL_nil]
theorem wiB_in (t : UInt8) (ht : 1 < t.toNat) (b l : List UInt8) (p : Nat) (h : l.drop p = inL t b) (hb : b.length ≤ 255) : wiB [t] l ⟨p, 0⟩ = true ∧ wiL [t] l ⟨p, 0⟩ = [(t, b)] := by
  have hk : knB [t] t.toNat = true := by simp [knB]
  have e := spl_in t b (by omega) hb
  have hm : mustK [t] (t, b) = true := by unfold mustK; simp [hk]
  have hsel : selK [t] [(t, b)] = [(t, b)] := by unfold selK; simp [hk, ht]
  unfold wiB wiL
  simp only [h, e, if_true]
  exact ⟨by simp [hm], hsel⟩
theorem say_of2 (s : St) (k : TK) (hf : TFit k) (hc : chkT k = 0) (hy : k.ty = 2) : sayB s 2 (bodL k) = true ∧ sayK s 2 (bodL k) = k := by
  obtain ⟨_, h2, _, _⟩ := chkT_zero hc
  have e : unK k = { k with nonce := 0, intv := 0 } := by unfold unK; rw [if_pos hy]
  rw [e] at h2
  have hl : bodL k = hw 0 ++ (hw k.nonce ++ hw k.intv) := by rw [bodL_2 k hy]; simp
  have hlen : (bodL k).length = 6 := by rw [hl]; simp [hw_len]
  have d0 : ((bodL k).drop 2).take 2 = hw k.nonce := by rw [hl]; rfl
  have d1 : ((bodL k).drop 4).take 2 = hw k.intv := by rw [hl]; rfl
  have hB : sayB s 2 (bodL k) = aqB (bodL k) r0 := by unfold sayB; rw [if_pos rfl]
  have hK : sayK s 2 (bodL k) = aqK (bodL k) r0 := by unfold sayK; rw [if_pos rfl]
  rw [hB, hK]
  unfold aqB aqK r0
  rw [adv_2 _ _ (by omega), adv_2 _ _ (by omega), adv_2 _ _ (by omega), val_2 _ _ (by omega), val_2 _ _ (by omega)]
  simp only [Nat.zero_add, Nat.reduceAdd]
  rw [d0, d1, hw_nv _ hf.nonce, hw_nv _ hf.intv]
  refine ⟨(wiB_nil [] _ 6 hlen).1, ?_⟩
  obtain ⟨ty, no, iv, sq, rx, me, ho, un, al, id, ad, pr, st⟩ := k
  simp only at hy
  subst hy
  simp only [TK.mk.injEq] at h2
  obtain ⟨_, _, _, h3, h4, h5, h6, h7, h8, h9, h10, h11, h12⟩ := h2
  subst h3 h4 h5 h6 h7 h8 h9 h10 h11 h12
  rfl
theorem say_of3 (s : St) (k : TK) (hf : TFit k) (hc : chkT k = 0) (hy : k.ty = 3) : sayB s 3 (bodL k) = true ∧ sayK s 3 (bodL k) = k := by
  obtain ⟨_, h2, _, _⟩ := chkT_zero hc
  have e : unK k = { k with nonce := 0 } := by unfold unK; rw [if_neg (by omega), if_pos hy]
  rw [e] at h2
  have hl : bodL k = hw k.nonce := by rw [bodL_3 k hy]; simp
  have hlen : (bodL k).length = 2 := by rw [hl]; simp [hw_len]
  have d0 : ((bodL k).drop 0).take 2 = hw k.nonce := by rw [hl]; rfl
  have hB : sayB s 3 (bodL k) = ackB (bodL k) r0 := by unfold sayB; rw [if_neg (by omega), if_pos rfl]
  have hK : sayK s 3 (bodL k) = ackK (bodL k) r0 := by unfold sayK; rw [if_neg (by omega), if_pos rfl]
  rw [hB, hK]
  unfold ackB ackK r0
  rw [adv_2 _ _ (by omega), val_2 _ _ (by omega)]
  rw [d0, hw_nv _ hf.nonce]
  refine ⟨(wiB_nil [] _ 2 hlen).1, ?_⟩
  obtain ⟨ty, no, iv, sq, rx, me, ho, un, al, id, ad, pr, st⟩ := k
  simp only at hy
  subst hy
  simp only [TK.mk.injEq] at h2
  obtain ⟨_, _, h1, h3, h4, h5, h6, h7, h8, h9, h10, h11, h12⟩ := h2
  subst h1 h3 h4 h5 h6 h7 h8 h9 h10 h11 h12
  rfl
end Go.Proofs.Ytognnfknbkedgaa

namespace Go.Proofs.Ytognnfknbkedgaa
open Go.RowKit
set_option linter.unusedSimpArgs false
set_option maxRecDepth 20000

theorem be32_nv (v : UInt32) : nv (be32 v) = v.toNat := by
  have := v.toNat_lt
  unfold be32 nv
  simp
  omega
theorem val_4 (l : List UInt8) (p : Nat) (h : p + 4 ≤ l.length) : (⟨p, 0⟩ : RS).val l 4 = nv ((l.drop p).take 4) := valk l p 4 h
theorem adv_4 (l : List UInt8) (p : Nat) (h : p + 4 ≤ l.length) : (⟨p, 0⟩ : RS).adv l 4 = ⟨p + 4, 0⟩ := advk l p 4 h
theorem nums_be : ∀ (st : List UInt32) (l : List UInt8) (p : Nat), l.drop p = st.flatMap be32 → p + 4 * st.length ≤ l.length → nums st.length l ⟨p, 0⟩ = st
  | [], _, _, _, _ => rfl
  | v :: st, l, p, h, hl => by
    rw [List.length_cons] at hl
    have e : l.drop p = be32 v ++ st.flatMap be32 := by rw [h]; rfl
    have e1 : (l.drop p).take 4 = be32 v := by rw [e]; rfl
    have e2 : l.drop (p + 4) = st.flatMap be32 := by rw [← List.drop_drop, e]; rfl
    show UInt32.ofNat _ :: nums st.length l _ = _
    rw [val_4 _ _ (by omega), adv_4 _ _ (by omega), e1, be32_nv, nums_be st l (p + 4) e2 (by omega)]
    simp
/-- The stamps that stand behind a place. -/
theorem st_at (st : List UInt32) (l : List UInt8) (p : Nat) (h : l.drop p = timL st) (hp : p ≤ l.length) (h2 : st.length ≤ 2) (n : Nat) (hn : st = [] ∨ st.length = n) : wiB [3] l ⟨p, 0⟩ = true ∧ stF n (wiL [3] l ⟨p, 0⟩) = st := by
  by_cases h0 : st = []
  · subst h0
    have hl : l.length = p := by
      have := congrArg List.length h
      simp [timL] at this
      omega
    obtain ⟨a, b⟩ := wiB_nil [3] l p hl
    rw [b]
    exact ⟨a, rfl⟩
  · have ht : timL st = inL 3 (st.flatMap be32) := by unfold timL; rw [if_neg h0]
    rw [ht] at h
    have hb := be32_len st
    obtain ⟨a, b⟩ := wiB_in 3 (by decide) (st.flatMap be32) l p h (by omega)
    rw [b]
    refine ⟨a, ?_⟩
    obtain rfl : st.length = n := by rcases hn with h | h; exact absurd h h0; exact h
    unfold stF
    rw [if_neg (by simp only; omega)]
    exact nums_be st (st.flatMap be32) 0 rfl (by rw [hb]; omega)
theorem say_of4 (s : St) (k : TK) (hf : TFit k) (hc : chkT k = 0) (hy : k.ty = 4) : sayB s 4 (bodL k) = true ∧ sayK s 4 (bodL k) = k := by
  obtain ⟨_, h2, h3, _⟩ := chkT_zero hc
  have e : unK k = { k with seq := 0, intv := 0, uni := false, st := [] } := by unfold unK; rw [if_neg (by omega), if_neg (by omega), if_pos hy]
  rw [e] at h2
  have hst : k.st.length ≤ 1 := by unfold fitB at h3; rw [if_pos hy] at h3; exact of_decide_eq_true h3
  obtain ⟨F, hF⟩ : ∃ F : Nat, (if k.uni = true then 32768 else 0) = F := ⟨_, rfl⟩
  have hl : bodL k = hw F ++ (hw k.seq ++ (hw k.intv ++ timL k.st)) := by rw [bodL_4 k hy, hF]; simp
  have hlen : 6 ≤ (bodL k).length := by rw [hl]; simp [hw_len]; omega
  have dz : ((bodL k).drop 0).take 2 = hw F := by rw [hl]; rfl
  have d0 : ((bodL k).drop 2).take 2 = hw k.seq := by rw [hl]; rfl
  have d1 : ((bodL k).drop 4).take 2 = hw k.intv := by rw [hl]; rfl
  have d2 : (bodL k).drop 6 = timL k.st := by rw [hl]; rfl
  have hB : sayB s 4 (bodL k) = heB (bodL k) r0 := by unfold sayB; rw [if_neg (by omega), if_neg (by omega), if_pos rfl]
  have hK : sayK s 4 (bodL k) = heK (bodL k) r0 := by unfold sayK; rw [if_neg (by omega), if_neg (by omega), if_pos rfl]
  rw [hB, hK]
  unfold heB heK heU r0
  rw [adv_2 _ _ (by omega), adv_2 _ _ (by omega), adv_2 _ _ (by omega), val_2 _ _ (by omega), val_2 _ _ (by omega), val_2 _ _ (by omega)]
  simp only [Nat.zero_add, Nat.reduceAdd]
  rw [dz, d0, d1, hw_nv _ hf.seq, hw_nv _ hf.intv, hw_nv F (by rw [← hF]; split <;> omega)]
  obtain ⟨q1, q2⟩ := st_at k.st (bodL k) 6 d2 hlen (by omega) 1 (by cases hs : k.st with | nil => exact .inl rfl | cons a b => rw [hs] at hst; simp at hst; exact .inr (by simp [hst]))
  refine ⟨q1, ?_⟩
  rw [q2]
  have hu : (bits BinOp.and IntKind.u16 (F : Int) 32768 != 0) = k.uni := by
    rw [← hF]
    cases k.uni <;> decide
  rw [hu]
  obtain ⟨ty, no, iv, sq, rx, me, ho, un, al, id, ad, pr, st⟩ := k
  simp only at hy
  subst hy
  simp only [TK.mk.injEq] at h2
  obtain ⟨_, h1, _, _, h4, h5, h6, _, h8, h9, h10, h11, _⟩ := h2
  subst h1 h4 h5 h6 h8 h9 h10 h11
  rfl
/-! ### Addresses -/
theorem splice_list (l b : List UInt8) (o : Nat) : splice l o b = l.take o ++ (b ++ l.drop (o + b.length)) := by
  rfl
theorem ad_eq (a : Ad) (f : Ad) (o : Nat) (ho : o ≤ 16) (h : a.l.take o = f.l.take o) : spA f o (a.l.drop o) = a := by
  have hl : o + (a.l.drop o).length ≤ 16 := by rw [List.length_drop, a.len]; omega
  unfold spA
  rw [dif_pos hl]
  apply Ad.ext
  show splice f.l o (a.l.drop o) = a.l
  rw [splice_list f.l _ o, ← h]
  have : f.l.drop (o + (a.l.drop o).length) = [] := List.drop_eq_nil_of_le (by rw [f.len, List.length_drop, a.len]; omega)
  rw [this, List.append_nil, List.take_append_drop]
theorem cut_take (a : Ad) (n k : Nat) (h : 8 * k ≤ n) : (cutA a n).l.take k = a.l.take k := by
  apply List.ext_getElem?
  intro i
  by_cases hi : i < k
  · rw [List.getElem?_take_of_lt hi, List.getElem?_take_of_lt hi]
    show (a.l.mapIdx fun i b => keepB (n - 8 * i) b)[i]? = _
    rw [List.getElem?_mapIdx]
    cases a.l[i]? with
    | none => rfl
    | some b => simp; exact keepB_all (by omega) b
  · rw [List.getElem?_eq_none (by simp; omega), List.getElem?_eq_none (by simp; omega)]
theorem con_take {a : Ad} (h : con llP a = true) : a.l.take 8 = llA.l.take 8 := by
  unfold con at h
  simp only [Bool.and_eq_true, decide_eq_true_eq] at h
  rw [← cut_take a 64 8 (by decide)]
  have : (cutA a 64).l = llA.l := h.2
  rw [this]
theorem fam_take {a : Ad} (h : famA a = 4) : a.l.take 12 = mapA.l.take 12 := by
  unfold famA at h
  split at h
  · rename_i h1
    rw [← cut_take a 96 12 (by decide), h1]
  · cases h
theorem adr_at (a : Ad) (l rest : List UInt8) (p : Nat) (h : l.drop p = adrL a ++ rest) (hp : p + (adrL a).length ≤ l.length) : adA (adrE a).toNat l ⟨p, 0⟩ = a ∧ adN (adrE a).toNat l ⟨p, 0⟩ = ⟨p + (adrL a).length, 0⟩ ∧ (adrE a).toNat ≠ 0 ∧ (adrE a).toNat < 256 := by
  have hal := a.len
  have key : ∀ (e : Nat) (o : Nat), (frB e) = true → frN e = o → o ≤ 16 → (adrL a) = a.l.drop o → a.l.take o = (frA e).l.take o → adA e l ⟨p, 0⟩ = a ∧ adN e l ⟨p, 0⟩ = ⟨p + (adrL a).length, 0⟩ := by
    intro e o h1 h2 h3 h4 h5
    have hlen : (adrL a).length = 16 - o := by rw [h4, List.length_drop, hal]
    have hb : tkB l p 0 ((16 - o : Nat) : Int) = a.l.drop o := by
      rw [tkB_ok l p (16 - o) (by omega), h, ← hlen, List.take_left, h4]
    unfold adA adN adR
    rw [if_pos h1, h2]
    refine ⟨?_, ?_⟩
    · simp only
      rw [hb]
      exact ad_eq a (frA e) o h3 h5
    · rw [advk l p (16 - o) (by omega), hlen]
  unfold adrE
  by_cases hc : con llP a = true
  · rw [if_pos hc]
    obtain ⟨k1, k2⟩ := key 3 8 rfl rfl (by omega) (by unfold adrL; rw [if_pos hc]) (con_take hc)
    exact ⟨k1, k2, by decide, by decide⟩
  · rw [if_neg hc]
    by_cases hf : famA a = 4
    · rw [if_pos hf]
      obtain ⟨k1, k2⟩ := key 1 12 rfl rfl (by omega) (by unfold adrL; rw [if_neg hc, if_pos hf]) (fam_take hf)
      exact ⟨k1, k2, by decide, by decide⟩
    · rw [if_neg hf]
      obtain ⟨k1, k2⟩ := key 2 0 rfl rfl (by omega) (by unfold adrL; rw [if_neg hc, if_neg hf]; rfl) rfl
      exact ⟨k1, k2, by decide, by decide⟩
theorem say_of5 (s : St) (k : TK) (hf : TFit k) (hc : chkT k = 0) (hy : k.ty = 5) : sayB s 5 (bodL k) = true ∧ sayK s 5 (bodL k) = k := by
  obtain ⟨_, h2, h3, _⟩ := chkT_zero hc
  have e : unK k = { k with rx := 0, intv := 0, all := false, ad := zeroA, st := [] } := by unfold unK; rw [if_neg (by omega), if_neg (by omega), if_neg (by omega), if_pos hy]
  rw [e] at h2
  unfold fitB at h3
  rw [if_neg (by omega), if_pos hy] at h3
  simp only [Bool.and_eq_true, decide_eq_true_eq, Bool.or_eq_true, Bool.not_eq_true'] at h3
  have hl : bodL k = [whmE k, 0] ++ (hw k.rx ++ (hw k.intv ++ (whmL k ++ timL k.st))) := by rw [bodL_5 k hy]; simp
  have hlen : (bodL k).length = 6 + (whmL k).length + (timL k.st).length := by rw [hl]; simp [hw_len]; omega
  have dz : ((bodL k).drop 0).take 1 = [whmE k] := by rw [hl]; rfl
  have d0 : ((bodL k).drop 2).take 2 = hw k.rx := by rw [hl]; rfl
  have d1 : ((bodL k).drop 4).take 2 = hw k.intv := by rw [hl]; rfl
  have d2 : (bodL k).drop 6 = whmL k ++ timL k.st := by rw [hl]; rfl
  have hB : sayB s 5 (bodL k) = ihB (bodL k) r0 := by unfold sayB; rw [if_neg (by omega), if_neg (by omega), if_neg (by omega), if_pos rfl]
  have hK : sayK s 5 (bodL k) = ihK (bodL k) r0 := by unfold sayK; rw [if_neg (by omega), if_neg (by omega), if_neg (by omega), if_pos rfl]
  rw [hB, hK]
  unfold ihB ihK r0
  rw [adv_1 _ _ (by omega), adv_1 _ _ (by omega), adv_2 _ _ (by omega), adv_2 _ _ (by omega), val_1 _ _ (by omega), val_2 _ _ (by omega), val_2 _ _ (by omega)]
  simp only [Nat.zero_add, Nat.reduceAdd]
  rw [dz, d0, d1, hw_nv _ hf.rx, hw_nv _ hf.intv, nv_u8]
  have key : adN (whmE k).toNat (bodL k) ⟨6, 0⟩ = ⟨6 + (whmL k).length, 0⟩ ∧ adA (whmE k).toNat (bodL k) ⟨6, 0⟩ = k.ad ∧ decide ((whmE k).toNat = 0) = k.all := by
    cases ha : k.all
    · have e1 : whmE k = adrE k.ad := by unfold whmE; rw [ha]; rfl
      have e2 : whmL k = adrL k.ad := by unfold whmL; rw [ha]; rfl
      rw [e2] at d2 hlen
      obtain ⟨q1, q2, q3, _⟩ := adr_at k.ad (bodL k) (timL k.st) 6 d2 (by omega)
      rw [e1, e2]
      exact ⟨q2, q1, decide_eq_false q3⟩
    · have e1 : whmE k = 0 := by unfold whmE; rw [ha]; rfl
      have e2 : whmL k = [] := by unfold whmL; rw [ha]; rfl
      have hz : k.ad = zeroA := Ad.ext (by rcases h3.2 with h | h; rw [ha] at h; cases h; exact h)
      rw [e1, e2, hz]
      refine ⟨?_, ?_, rfl⟩
      · show (⟨6, 0⟩ : RS).adv (bodL k) ((0 : Nat) : Int) = _
        rw [advk _ 6 0 (by omega)]
        rfl
      · show spA zeroA 16 (tkB (bodL k) 6 0 ((0 : Nat) : Int)) = zeroA
        rw [tkB_ok _ 6 0 (by omega)]
        rfl
  obtain ⟨q1, q2, q3⟩ := key
  rw [q1, q2, q3]
  have d3 : (bodL k).drop (6 + (whmL k).length) = timL k.st := by rw [← List.drop_drop, d2, List.drop_left]
  obtain ⟨t1, t2⟩ := st_at k.st (bodL k) (6 + (whmL k).length) d3 (by omega) (by omega) 2 (by rcases h3.1 with h | h; exact .inl (List.eq_nil_of_length_eq_zero h); exact .inr h)
  refine ⟨t1, ?_⟩
  rw [t2]
  obtain ⟨ty, no, iv, sq, rx, me, ho, un, al, id, ad, pr, st⟩ := k
  simp only at hy
  subst hy
  simp only [TK.mk.injEq] at h2
  obtain ⟨_, h1, _, h5, _, h6, h7, h8, _, h9, _, h11, _⟩ := h2
  subst h1 h5 h6 h7 h8 h9 h11
  rfl
/-! ### Routers and next hops -/
theorem say_of6 (s : St) (i : Id8) (h : nobB i = false) : sayB s 6 (rtrK i).2 = false ∧ sayS s 6 (rtrK i).2 = { s with r := some i } := by
  have hl : (rtrK i).2 = [0, 0] ++ i.l := rfl
  have hlen : ([0, 0] ++ i.l : List UInt8).length = 10 := by simp [i.len]
  refine ⟨by unfold sayB; simp, ?_⟩
  have hS : sayS s 6 (rtrK i).2 = riS s (rtrK i).2 r0 := by unfold sayS; rw [if_pos rfl]
  rw [hS, hl]
  have hid : idF ([0, 0] ++ i.l) ⟨2, 0⟩ = i := by
    unfold idF
    simp only
    rw [show (8 : Int) = ((8 : Nat) : Int) from rfl, tkB_ok _ 2 8 (by omega)]
    have e : ((([0, 0] ++ i.l : List UInt8)).drop 2).take 8 = i.l := by
      show i.l.take 8 = i.l
      exact List.take_of_length_le (by rw [i.len]; omega)
    rw [e]
    unfold spI
    rw [dif_pos (by rw [i.len]; omega)]
    apply Id8.ext
    show splice zeroI.l 0 i.l = i.l
    rw [splice_list]
    have : zeroI.l.drop (0 + i.l.length) = [] := List.drop_eq_nil_of_le (by rw [i.len, zeroI.len]; omega)
    rw [this]
    simp
  unfold riS r0
  rw [adv_2 _ _ (by omega), adv_8 _ _ (by omega)]
  simp only [Nat.zero_add]
  rw [hid, h]
  rfl
theorem say_of7 (s : St) (a : Ad) : sayB s 7 (hopK a).2 = false ∧ sayS s 7 (hopK a).2 = setHop s (famA a) a := by
  have hl : (hopK a).2 = [adrE a, 0] ++ (adrL a ++ []) := by show [adrE a, 0] ++ adrL a = _; rw [List.append_nil]
  refine ⟨by unfold sayB; simp, ?_⟩
  have hS : sayS s 7 (hopK a).2 = nhS s (hopK a).2 r0 := by unfold sayS; rw [if_neg (by omega), if_pos rfl]
  rw [hS, hl]
  have hlen : ([adrE a, 0] ++ (adrL a ++ []) : List UInt8).length = 2 + (adrL a).length := by simp; omega
  obtain ⟨q1, q2, q3, _⟩ := adr_at a ([adrE a, 0] ++ (adrL a ++ [])) [] 2 rfl (by omega)
  have hv : (⟨0, 0⟩ : RS).val ([adrE a, 0] ++ (adrL a ++ [])) 1 = (adrE a).toNat := by
    rw [val_1 _ _ (by omega)]
    show nv [adrE a] = _
    exact nv_u8 _
  unfold nhS nhR r0
  rw [hv, if_neg q3, adv_1 _ _ (by omega), adv_1 _ _ (by omega)]
  simp only [Nat.zero_add, Nat.reduceAdd]
  rw [q1, q2]
  simp
end Go.Proofs.Ytognnfknbkedgaa

namespace Go.Proofs.Ytognnfknbkedgaa
open Go.RowKit
set_option linter.unusedSimpArgs false
set_option maxRecDepth 20000

/-- The bits of a prefix behind its length are zero. -/
theorem chk_keep {p : Pf} (h : chk p = 0) (i : Nat) (b : UInt8) (hb : p.a.l[i]? = some b) : keepB (p.n.toNat - 8 * i) b = b := by
  rcases chk_or p with ⟨_, _, _, h4⟩ | h4
  · have h5 : (cutA p.a p.n.toNat).l[i]? = some (keepB (p.n.toNat - 8 * i) b) := by
      show (p.a.l.mapIdx fun i b => keepB (p.n.toNat - 8 * i) b)[i]? = _
      rw [List.getElem?_mapIdx, hb]
      rfl
    rw [h4, hb] at h5
    exact (Option.some.inj h5).symm
  · rw [h4] at h; cases h
theorem pf_list {p : Pf} (h : chk p = 0) (f : Ad) (o : Nat) (h1 : p.a.l.take o = f.l.take o) (hz : ∀ i, o ≤ i → i < 16 → f.l[i]? = some 0) (ho : o ≤ (p.n.toNat + 7) / 8) (hN : p.n.toNat ≤ 128) : spA f o ((p.a.l.drop o).take ((p.n.toNat + 7) / 8 - o)) = p.a := by
  have hal := p.a.len
  have hfl := f.len
  obtain ⟨m, hm⟩ : ∃ m, (p.n.toNat + 7) / 8 - o = m := ⟨_, rfl⟩
  rw [hm]
  have hml : ((p.a.l.drop o).take m).length = m := by rw [List.length_take, List.length_drop, hal]; omega
  unfold spA
  rw [dif_pos (by rw [hml]; omega)]
  apply Ad.ext
  show splice f.l o ((p.a.l.drop o).take m) = p.a.l
  rw [splice_list, hml, ← h1]
  have hd : f.l.drop (o + m) = p.a.l.drop (o + m) := by
    apply List.ext_getElem?
    intro i
    rw [List.getElem?_drop, List.getElem?_drop]
    by_cases hi : o + m + i < 16
    · rw [hz _ (by omega) hi, List.getElem?_eq_getElem (by omega)]
      have hk := chk_keep h (o + m + i) _ (List.getElem?_eq_getElem (by omega))
      rw [show p.n.toNat - 8 * (o + m + i) = 0 by omega, keepB_none] at hk
      rw [← hk]
    · rw [List.getElem?_eq_none (by omega), List.getElem?_eq_none (by omega)]
  rw [hd]
  have e : p.a.l.drop o = (p.a.l.drop o).take m ++ p.a.l.drop (o + m) := by rw [← List.drop_drop, List.take_append_drop]
  rw [← e, List.take_append_drop]
theorem msk_id {p : Pf} (h : chk p = 0) (i r : Nat) (hr : p.n.toNat - 8 * i = r) (hi : i < 16) : mskA p.a i r = p.a := by
  unfold mskA
  apply Ad.ext
  show p.a.l.set i (keepB r (p.a.l.getD i 0)) = p.a.l
  have hl : i < p.a.l.length := by rw [p.a.len]; exact hi
  have hg : p.a.l[i]? = some p.a.l[i] := List.getElem?_eq_getElem hl
  have hk := chk_keep h i _ hg
  rw [hr] at hk
  have : p.a.l.getD i 0 = p.a.l[i] := by rw [List.getD_eq_getElem?_getD, hg]; rfl
  rw [this, hk]
  simp
theorem mapA_z (i : Nat) (h : 12 ≤ i) (h' : i < 16) : mapA.l[i]? = some 0 := by
  obtain rfl | rfl | rfl | rfl : i = 12 ∨ i = 13 ∨ i = 14 ∨ i = 15 := by omega
  all_goals rfl
theorem zeroA_z (i : Nat) (h' : i < 16) : zeroA.l[i]? = some 0 := by
  show (List.replicate 16 (0 : UInt8))[i]? = some 0
  rw [List.getElem?_replicate, if_pos h']
theorem famP_four {p : Pf} (h : famP p = 4) : 96 ≤ p.n ∧ famA p.a = 4 := by
  unfold famP at h
  split at h
  · assumption
  · cases h
theorem pfx_at (s : St) (p : Pf) (h : chk p = 0) (l rest : List UInt8) (q : Nat) (hd : l.drop q = pfxL p ++ rest) (hq : q + (pfxL p).length ≤ l.length) : pfP s (pfxE p).toNat (pfxN p) 0 l ⟨q, 0⟩ = p ∧ pfR s (pfxE p).toNat (pfxN p) 0 l ⟨q, 0⟩ = ⟨q + (pfxL p).length, 0⟩ ∧ pfxN p < 256 := by
  have hal := p.a.len
  obtain ⟨n0, n1⟩ : 0 ≤ p.n ∧ p.n ≤ 128 := by
    rcases chk_or p with ⟨_, a, b, _⟩ | e
    · exact ⟨a, b⟩
    · rw [e] at h; cases h
  have key : ∀ (e o : Nat), (e = 1 ∨ e = 2) → frN e = o → 8 * o ≤ p.n.toNat → pfxN p = p.n.toNat - 8 * o → pfxL p = (p.a.l.drop o).take ((p.n.toNat + 7) / 8 - o) → p.a.l.take o = (frA e).l.take o → (∀ i, o ≤ i → i < 16 → (frA e).l[i]? = some 0) → pfP s e (pfxN p) 0 l ⟨q, 0⟩ = p ∧ pfR s e (pfxN p) 0 l ⟨q, 0⟩ = ⟨q + (pfxL p).length, 0⟩ ∧ pfxN p < 256 := by
    intro e o he h1 h2 h3 h4 h5 h6
    obtain ⟨pl, hpl⟩ : ∃ n, pfxN p = n := ⟨_, rfl⟩
    rw [hpl] at h3 ⊢
    have hm : pfN pl = (p.n.toNat + 7) / 8 - o := by unfold pfN; omega
    have hlen : (pfxL p).length = pfN pl := by rw [h4, List.length_take, List.length_drop, hal, hm]; omega
    have hX : pfX s e pl 0 = false := by
      unfold pfX
      rw [h1]
      have a1 : (decide (e = 1) || decide (e = 2)) = true := by rcases he with rfl | rfl <;> rfl
      have a2 : decide (8 * (16 - o) < pl) = false := decide_eq_false (by omega)
      have a3 : decide (pfN pl < 0) = false := decide_eq_false (by omega)
      rw [a1, a2, a3]
      rfl
    have htk : tkB l q 0 ((pfN pl - 0 : Nat) : Int) = pfxL p := by
      rw [Nat.sub_zero, tkB_ok l q (pfN pl) (by omega), hd, ← hlen, List.take_left]
    have hA2 : pfA2 s e pl 0 l ⟨q, 0⟩ = p.a := by
      unfold pfA2 pfA1
      rw [if_neg (by omega), h1, Nat.add_zero]
      simp only
      rw [htk, h4]
      exact pf_list h (frA e) o h5 h6 (by omega) (by omega)
    have hA3 : pfA3 s e pl 0 l ⟨q, 0⟩ = p.a := by
      unfold pfA3
      rw [hA2, h1]
      split
      · exact msk_id h _ _ (by unfold pfN; omega) (by unfold pfN; omega)
      · rfl
    refine ⟨?_, ?_, by omega⟩
    · unfold pfP
      rw [hX, hA3, h1]
      obtain ⟨pa, pn⟩ := p
      simp only at *
      simp
      omega
    · unfold pfR
      rw [hX]
      simp only [Bool.false_eq_true, if_false]
      rw [Nat.sub_zero, advk l q (pfN pl) (by omega), hlen]
  by_cases hf : famP p = 4
  · obtain ⟨a, b⟩ := famP_four hf
    have e1 : pfxE p = 1 := by unfold pfxE; rw [if_pos hf]
    rw [e1]
    exact key 1 12 (.inl rfl) rfl (by omega) (by unfold pfxN; rw [if_pos hf]) (by unfold pfxL; rw [if_pos hf]) (fam_take b) mapA_z
  · have e1 : pfxE p = 2 := by unfold pfxE; rw [if_neg hf]
    rw [e1]
    exact key 2 0 (.inr rfl) rfl (by omega) (by unfold pfxN; rw [if_neg hf]; omega) (by unfold pfxL; rw [if_neg hf]; rfl) rfl (fun i _ hi => zeroA_z i hi)
end Go.Proofs.Ytognnfknbkedgaa

namespace Go.Proofs.Ytognnfknbkedgaa
open Go.RowKit
set_option linter.unusedSimpArgs false
set_option maxRecDepth 20000

theorem chkQ_parts {q : Pr} (h : chkQ q = 0) : chk q.d = 0 ∧ chk q.s = 0 ∧ famP q.d = famP q.s := by
  unfold chkQ orI at h
  rcases chk_or q.d with ⟨e1, _⟩ | e1
  · rcases chk_or q.s with ⟨e2, _⟩ | e2
    · refine ⟨e1, e2, ?_⟩
      rw [e1, e2] at h
      simp at h
      exact h
    · rw [e1, e2] at h; simp at h
  · rw [e1] at h; simp at h
theorem spec_ne {q : Pr} (h : chk q.s = 0) (hs : spec q = true) : pfxN q.s ≠ 0 := by
  intro h0
  obtain ⟨n0, n1, hc⟩ : 0 ≤ q.s.n ∧ q.s.n ≤ 128 ∧ (cutA q.s.a q.s.n.toNat).l = q.s.a.l := by
    rcases chk_or q.s with ⟨_, a, b, c⟩ | e
    · exact ⟨a, b, c⟩
    · rw [e] at h; cases h
  unfold spec at hs
  by_cases hf : famP q.s = 4
  · obtain ⟨a, b⟩ := famP_four hf
    unfold pfxN at h0
    rw [if_pos hf] at h0
    have hn : q.s.n = 96 := by omega
    rw [hn] at hc
    unfold famA at b
    split at b
    · rename_i hm
      have e1 : q.s.a.l = mapA.l := by rw [← hc]; exact hm
      rw [hf] at hs
      have e2 : anyP 4 = ⟨mapA, 96⟩ := rfl
      rw [e2, e1, hn] at hs
      simp at hs
    · cases b
  · unfold pfxN at h0
    rw [if_neg hf] at h0
    have hn : q.s.n = 0 := by omega
    rw [hn] at hc
    have hf6 : famP q.s = 6 := by rcases famP_or2 q.s with e | e; exact absurd e hf; exact e
    have e1 : q.s.a.l = zeroA.l := by
      apply List.ext_getElem?
      intro i
      by_cases hi : i < 16
      · rw [zeroA_z i hi]
        have hg : q.s.a.l[i]? = some (q.s.a.l[i]'(by rw [q.s.a.len]; exact hi)) := List.getElem?_eq_getElem _
        have hk := chk_keep h i _ hg
        rw [hn] at hk
        rw [show (0 : Int).toNat - 8 * i = 0 by simp, keepB_none] at hk
        rw [hg, ← hk]
      · rw [List.getElem?_eq_none (by rw [q.s.a.len]; omega), List.getElem?_eq_none (by rw [zeroA.len]; omega)]
    have e2 : anyP 6 = ⟨zeroA, 0⟩ := rfl
    rw [hf6, e2, e1, hn] at hs
    simp at hs
theorem spec_no {q : Pr} (h : spec q = false) (hf : famP q.d = famP q.s) : q = ⟨q.d, anyP (famP q.d)⟩ := by
  unfold spec at h
  simp only [Bool.not_eq_false', Bool.and_eq_true, decide_eq_true_eq] at h
  obtain ⟨h1, h2⟩ := h
  obtain ⟨d, ⟨a, n⟩⟩ := q
  simp only at h1 h2 hf
  have : a = (anyP (famP ⟨a, n⟩)).a := Ad.ext h1
  rw [hf]
  generalize anyP (famP ⟨a, n⟩) = z at *
  obtain ⟨za, zn⟩ := z
  simp only at this h2
  subst this h2
  rfl
theorem pr_at (s : St) (q : Pr) (h : chkQ q = 0) (l : List UInt8) (p : Nat) (hd : l.drop p = srcL q) (hp : p ≤ l.length) : prB s (pfxE q.d).toNat q.d l ⟨p, 0⟩ = true ∧ prQ s (pfxE q.d).toNat q.d l ⟨p, 0⟩ = q := by
  obtain ⟨c1, c2, c3⟩ := chkQ_parts h
  have main : wiB [128] l ⟨p, 0⟩ = true ∧ (wiL [128] l ⟨p, 0⟩).length ≤ 1 ∧ prK s (pfxE q.d).toNat q.d l ⟨p, 0⟩ = q ∧ prW s (pfxE q.d).toNat l ⟨p, 0⟩ = true := by
    cases hs : spec q
    · have e : srcL q = [] := by unfold srcL; rw [hs]; rfl
      rw [e] at hd
      have hl : l.length = p := by have := congrArg List.length hd; simp at this; omega
      obtain ⟨a, b⟩ := wiB_nil [128] l p hl
      refine ⟨a, by rw [b]; simp, ?_, ?_⟩
      · unfold prK
        rw [b]
        exact (spec_no hs c3).symm
      · unfold prW
        rw [b]
    · have e : srcL q = inL 128 (UInt8.ofNat (pfxN q.s) :: pfxL q.s) := by unfold srcL; rw [hs]; rfl
      rw [e] at hd
      have hpl := pfxL_len q.s
      obtain ⟨a, b⟩ := wiB_in 128 (by decide) _ l p hd (by simp; omega)
      have ee : pfxE q.d = pfxE q.s := by unfold pfxE; rw [c3]
      obtain ⟨body, hb⟩ : ∃ b, UInt8.ofNat (pfxN q.s) :: pfxL q.s = b := ⟨_, rfl⟩
      rw [hb] at b
      have hbl : body.length = 1 + (pfxL q.s).length := by rw [← hb]; simp; omega
      obtain ⟨k1, k2, k3⟩ := pfx_at s q.s c2 body [] 1 (by rw [← hb]; simp) (by omega)
      have hv : (⟨0, 0⟩ : RS).val body 1 = pfxN q.s := by
        rw [val_1 _ _ (by omega), ← hb]
        exact nv_one _ k3
      have hr : soR body ⟨0, 0⟩ = ⟨1, 0⟩ := by
        unfold soR
        rw [hv, if_neg (spec_ne c2 hs), adv_1 _ _ (by omega)]
      refine ⟨a, by rw [b]; simp, ?_, ?_⟩
      · unfold prK
        rw [b]
        simp only
        unfold soP
        rw [hv, hr, ee, k1]
      · unfold prW
        rw [b]
        simp only
        unfold soN
        rw [hv, hr, ee, k2]
        rfl
  obtain ⟨a, b, c, d⟩ := main
  unfold prB prQ
  have hcond : (wiB [128] l ⟨p, 0⟩ && decide ((wiL [128] l ⟨p, 0⟩).length ≤ 1)) = true := by rw [a, decide_eq_true b]; rfl
  rw [hcond]
  simp only [if_true]
  rw [c, d, h]
  exact ⟨rfl, rfl⟩
theorem srcZ : srcL zeroQ = [] := by kernel_rfl
theorem prq_eq {q : Pr} (h : prqB q zeroQ = true) : q = zeroQ := (prB_iff q zeroQ).1 h
theorem pfxE_ne (p : Pf) : (pfxE p).toNat ≠ 0 := by unfold pfxE; split <;> decide
theorem ns_nil (l : List UInt8) (p : Nat) (h : l.length = p) : nsB l ⟨p, 0⟩ = true := by
  obtain ⟨a, b⟩ := wiB_nil [128] l p h
  unfold nsB
  rw [a, b]
  rfl
theorem say_of9 (s : St) (k : TK) (hc : chkT k = 0) (hy : k.ty = 9) : sayB s 9 (bodL k) = true ∧ sayK s 9 (bodL k) = k := by
  obtain ⟨_, h2, h3, h4⟩ := chkT_zero hc
  have e : unK k = { k with all := false, pr := zeroQ } := by unfold unK; rw [if_neg (by omega), if_neg (by omega), if_neg (by omega), if_neg (by omega), if_neg (by omega), if_pos hy]
  rw [e] at h2
  unfold fitB at h3
  rw [if_neg (by omega), if_neg (by omega), if_neg (by omega), if_pos hy] at h3
  have hB : sayB s 9 (bodL k) = rrB s (bodL k) r0 := by unfold sayB; rw [if_neg (by omega), if_neg (by omega), if_neg (by omega), if_neg (by omega), if_neg (by omega), if_pos rfl]
  have hK : sayK s 9 (bodL k) = rrK s (bodL k) r0 := by unfold sayK; rw [if_neg (by omega), if_neg (by omega), if_neg (by omega), if_neg (by omega), if_neg (by omega), if_pos rfl]
  rw [hB, hK]
  have hk : ∀ q : Pr, k.pr = q → (k = { zeroK with ty := 9, all := k.all, pr := q }) := fun q hq => by
    obtain ⟨ty, no, iv, sq, rx, me, ho, un, al, id, ad, pr, st⟩ := k
    simp only at hy hq
    subst hy hq
    simp only [TK.mk.injEq] at h2
    obtain ⟨_, h1, h5, h6, h7, h8, h9, h10, _, h11, h12, _, h13⟩ := h2
    subst h1 h5 h6 h7 h8 h9 h10 h11 h12 h13
    rfl
  cases ha : k.all
  · have e1 : whrE k = pfxE k.pr.d := by unfold whrE; rw [ha]; rfl
    have e2 : whrN k = pfxN k.pr.d := by unfold whrN; rw [ha]; rfl
    have e3 : whrL k = pfxL k.pr.d := by unfold whrL; rw [ha]; rfl
    have hl : bodL k = [pfxE k.pr.d, UInt8.ofNat (pfxN k.pr.d)] ++ (pfxL k.pr.d ++ srcL k.pr) := by rw [bodL_9 k hy, e1, e2, e3]; simp
    obtain ⟨L, hL⟩ : ∃ L, bodL k = L := ⟨_, rfl⟩
    rw [hL] at hl ⊢
    have hlen : L.length = 2 + (pfxL k.pr.d).length + (srcL k.pr).length := by rw [hl]; simp; omega
    obtain ⟨c1, c2, c3⟩ := chkQ_parts h4
    obtain ⟨k1, k2, k3⟩ := pfx_at s k.pr.d c1 L (srcL k.pr) 2 (by rw [hl]; rfl) (by omega)
    obtain ⟨j1, j2⟩ := pr_at s k.pr h4 L (2 + (pfxL k.pr.d).length) (by rw [← List.drop_drop, hl]; show (pfxL k.pr.d ++ srcL k.pr).drop _ = _; rw [List.drop_left]) (by omega)
    have v0 : (⟨0, 0⟩ : RS).val L 1 = (pfxE k.pr.d).toNat := by rw [val_1 _ _ (by omega), hl]; exact nv_u8 _
    have v1 : (⟨1, 0⟩ : RS).val L 1 = pfxN k.pr.d := by rw [val_1 _ _ (by omega), hl]; exact nv_one _ k3
    unfold rrB rrK r0
    rw [adv_1 _ _ (by omega), adv_1 _ _ (by omega), v0, if_neg (pfxE_ne _), if_neg (pfxE_ne _)]
    simp only [Nat.zero_add, Nat.reduceAdd]
    rw [v1, k1, k2, j1, j2]
    refine ⟨rfl, ?_⟩
    have := hk k.pr rfl
    rw [ha] at this
    exact this.symm
  · rw [ha] at h3
    have hz : k.pr = zeroQ := prq_eq (by simpa using h3)
    have e1 : whrE k = 0 := by unfold whrE; rw [ha]; rfl
    have e2 : whrN k = 0 := by unfold whrN; rw [ha]; rfl
    have e3 : whrL k = [] := by unfold whrL; rw [ha]; rfl
    have hl : bodL k = [0, 0] := by rw [bodL_9 k hy, e1, e2, e3, hz, srcZ]; rfl
    rw [hl]
    unfold rrB rrK r0
    have v0 : (⟨0, 0⟩ : RS).val ([0, 0] : List UInt8) 1 = 0 := by rw [val_1 _ _ (by decide)]; rfl
    rw [v0, if_pos rfl, if_pos rfl, adv_1 _ _ (by decide), adv_1 _ _ (by decide)]
    refine ⟨ns_nil _ _ rfl, ?_⟩
    have := hk zeroQ hz
    rw [ha] at this
    rw [this]
    rfl
end Go.Proofs.Ytognnfknbkedgaa
