/-
  What holds in the rounds of Pack.
-/
import Derived.Test.YtognnfknbkedgaaM27
import Derived.Test.YtognnfknbkedgaaM26
namespace Go.Proofs.Ytognnfknbkedgaa
open Go.RowKit
set_option linter.unusedSimpArgs false
set_option maxRecDepth 20000

theorem infoS3 : (Try.prog.info? 40).map (fun i => (i.zero, i.size, i.bytes)) = some (some (.slice none 0 0), 1, 24) := by kernel_rfl
theorem svcells_one (qs : List Part) : ∀ u ∈ svcells qs, u.oneCell' = true := by
  intro u hu
  simp only [svcells, List.mem_map] at hu
  obtain ⟨q, _, rfl⟩ := hu
  rfl
section
variable {ops : Array Oper} {rest : List Oper} {op : Oper} {a : Act} {w : World} {Q : Exit → Act → World → Prop} {K : Act → World → Prop} {E : Prop}
theorem wp_appS (s x : Operand) (ho : op.op = .call { callee := .builtin .append, args := #[s, x], argTypes := #[48, 48] })
    (base : Nat) (v : Value) (n : Nat) (qs : List Part) (hs : a.eval s = v) (hown : w.ownsRow base 40 1 v n (svcells qs))
    (ad : Addr) (c : Nat) (q : Part) (hx : a.eval x = .slice (some ad) 1 c) (hq : Src w (some ad) 1 c (svcells [q]))
    (hbytes : n + 1 ≤ 1000000000) (hbase : base ≤ w.heap.size)
    (h : ∀ v' w', w'.ownsRow base 40 1 v' (n + 1) (svcells (qs ++ [q])) → w.grownBy w' v.ownBlock → K (a.put op.dst v') w') : Oper.wp Try.prog op a w K Q := by
  obtain ⟨i0, hi, hz0, hz1, hz2⟩ := info_parts infoS3
  refine wp_append_own w s x 48 ho base 40 i0 (.slice none 0 0) 1 24 Try.underlying48 hi hz0 hz1 hz2 rfl (by decide) v n (svcells qs) hs hown ad 1 c (svcells [q]) hx rfl (fun j u hu => hq.cell ad rfl j u hu) (svcells_one [q]) (by unfold maxLen; omega) (by omega) hbase (fun v' w' h1 h2 _ => h v' w' ?_ h2)
  have e : svcells (qs ++ [q]) = svcells qs ++ svcells [q] := by simp [svcells]
  rw [e]
  exact h1
theorem appS (hgd : op.guard = none) (s x : Operand) (ho : op.op = .call { callee := .builtin .append, args := #[s, x], argTypes := #[48, 48] })
    (base : Nat) (v : Value) (n : Nat) (qs : List Part) (hs : a.eval s = v) (hown : w.ownsRow base 40 1 v n (svcells qs))
    (ad : Addr) (c : Nat) (q : Part) (hx : a.eval x = .slice (some ad) 1 c) (hq : Src w (some ad) 1 c (svcells [q]))
    (hbytes : n + 1 ≤ 1000000000) (hbase : base ≤ w.heap.size)
    (h : ∀ v' w', w'.ownsRow base 40 1 v' (n + 1) (svcells (qs ++ [q])) → w.grownBy w' v.ownBlock → wpList Try.prog ops Q rest (a.put op.dst v') w') : wpList Try.prog ops Q (op :: rest) a w :=
  wpList_plain hgd fun _ hK => wp_appS s x ho base v n qs hs hown ad c q hx hq hbytes hbase fun v' w' h2 h3 => hK _ _ (h v' w' h2 h3)
theorem sAppS (s x : Operand) (hw : Region.wanted op (yielded ops a.tmps) = true) (ho : op.op = .call { callee := .builtin .append, args := #[s, x], argTypes := #[48, 48] })
    (base : Nat) (v : Value) (n : Nat) (qs : List Part) (hs : a.eval s = v) (hown : w.ownsRow base 40 1 v n (svcells qs))
    (ad : Addr) (c : Nat) (q : Part) (hx : a.eval x = .slice (some ad) 1 c) (hq : Src w (some ad) 1 c (svcells [q]))
    (hbytes : n + 1 ≤ 1000000000) (hbase : base ≤ w.heap.size)
    (h : ∀ v' w', w'.ownsRow base 40 1 v' (n + 1) (svcells (qs ++ [q])) → w.grownBy w' v.ownBlock → K (a.put op.dst v') w') : if Region.wanted op (yielded ops a.tmps) = true then Oper.wp Try.prog op a w K Q else E := by
  rw [if_pos hw]
  exact wp_appS s x ho base v n qs hs hown ad c q hx hq hbytes hbase h
end
/-- Packets in memory of the call's own. -/
structure Ac (B : Nat) (W : World) (v : Value) (qs : List Part) : Prop where
  own : W.ownsRow B 40 1 v qs.length (svcells qs)
  bods : ∀ q ∈ qs, W.ownsRow B 5 1 (.slice q.a q.n q.c) q.n (bcells q.l)
theorem Ac.nil (B : Nat) (W : World) : Ac B W (.slice none 0 0) [] := ⟨World.ownsRow_nil _ _ _ _, fun q hq => by cases hq⟩
theorem Ac.below {B : Nat} {W W' : World} {v : Value} {qs : List Part} (h : Ac B W v qs) (hb : Below W.heap.size W W') : Ac B W' v qs :=
  ⟨own_keep h.own (grownBy_below none hb) (.inr rfl), fun q hq => own_keep (h.bods q hq) (grownBy_below none hb) (.inr rfl)⟩
theorem Ac.app {B : Nat} {W W' : World} {v v' : Value} {qs : List Part} {q : Part} (h : Ac B W v qs) (hq : W.ownsRow B 5 1 (.slice q.a q.n q.c) q.n (bcells q.l)) (own' : W'.ownsRow B 40 1 v' (qs.length + 1) (svcells (qs ++ [q]))) (hg : W.grownBy W' v.ownBlock) : Ac B W' v' (qs ++ [q]) := by
  refine ⟨by simpa using own', fun p hp => ?_⟩
  have k : W.ownsRow B 5 1 (.slice p.a p.n p.c) p.n (bcells p.l) := by
    rcases List.mem_append.1 hp with h1 | h1
    · exact h.bods p h1
    · obtain rfl : p = q := by simpa using h1
      exact hq
  exact own_keep k hg (own_apart k h.own (by decide))
theorem Dr.outer {B B' m s : Nat} {W W' : World} {P : Nat} {d : DS} {a : Option Addr} {n c : Nat} {ps : List Pc} {v : Value} {xs : List Value} (h : Dr B W P d a n c ps) (ho : W.ownsRow B' 40 s v m xs) (hg : W.grownBy W' v.ownBlock) : Dr B W' P d a n c ps :=
  ⟨h.row.grown hg (own_ne ho h.row (by decide)), h.ge, own_keep h.own hg (own_apart h.own ho (by decide)), h.bods.keep hg (fun p hp => own_apart (h.bods p hp) ho (by decide)), h.keys⟩
/-- A packet under way is as long as may be. -/
structure DOk (d : DS) (mtu : Int) : Prop where
  ok : PkOk d.ps
  room : 0 ≤ d.room
  sum : (lenP d.ps : Int) + d.room = mtu - 4
theorem lenP_append (l m : List PK) : lenP (l ++ m) = lenP l + lenP m := by simp [lenP]
theorem lenP_ge (l : List PK) : 2 * l.length ≤ lenP l := by
  induction l with
  | nil => simp [lenP]
  | cons p l ih => simp [lenP] at *; omega
theorem adrE_len (a : Ad) : (hopK a).2.length ≤ 18 := by
  unfold hopK
  have := adrL_len a
  simp; omega
theorem witP_ok (o : TS) (k : TK) (h : TOk k) : PkOk (witP o k) ∧ lenP (witP o k) ≤ 1000 := by
  have hb := bodL_len h
  have hpz : ∀ p ∈ [pieK k], p.1 ≠ 0 ∧ p.2.length ≤ 255 := fun p hp => by
    simp at hp; subst hp
    refine ⟨?_, hb⟩
    unfold pieK
    rcases namB_cases h.nam with e | e | e | e | e | e | e <;> simp [e]
  have hr : ∀ p ∈ rtrP o k, p.1 ≠ 0 ∧ p.2.length ≤ 255 := fun p hp => by
    unfold rtrP at hp
    split at hp
    · simp at hp
    · simp at hp; subst hp; unfold rtrK; simp [k.id.len]
  have hh : ∀ p ∈ hopP o k, p.1 ≠ 0 ∧ p.2.length ≤ 255 := fun p hp => by
    unfold hopP at hp
    split at hp
    · simp at hp
    · simp at hp; subst hp; have := adrE_len k.ad; refine ⟨?_, by omega⟩; simp [hopK]
  have l1 : (rtrP o k).length ≤ 1 := by unfold rtrP; split <;> simp
  have l2 : (hopP o k).length ≤ 1 := by unfold hopP; split <;> simp
  have hall : PkOk (witP o k) := fun p hp => by
    unfold witP at hp
    rcases List.mem_append.1 hp with h1 | h1
    · split at h1
      · rcases List.mem_append.1 h1 with h2 | h2
        · exact hr p h2
        · exact hh p h2
      · simp at h1
    · exact hpz p h1
  refine ⟨hall, ?_⟩
  have len : ∀ l : List PK, PkOk l → lenP l ≤ 257 * l.length := fun l hl => by
    induction l with
    | nil => simp [lenP]
    | cons p l ih =>
      have := ih (fun q hq => hl q (by simp [hq]))
      have := (hl p (by simp)).2
      simp [lenP] at *
      omega
  have := len _ hall
  have : (witP o k).length ≤ 3 := by
    unfold witP
    split <;> simp <;> omega
  omega
theorem DOk.beg (src : Ad) {mtu : Int} (h : 64 ≤ mtu) : DOk (begD src mtu) mtu := ⟨(fun p hp => absurd hp List.not_mem_nil), (by show 0 ≤ mtu - 4; omega), (by show ((0 : Nat) : Int) + (mtu - 4) = mtu - 4; omega)⟩
theorem DOk.tak {d : DS} {mtu : Int} {k : TK} (h : DOk d mtu) (hk : TOk k) (hb : takB d k = true) : DOk (takD d k) mtu := by
  unfold takB at hb
  have hb' := of_decide_eq_true hb
  refine ⟨fun p hp => ?_, by show 0 ≤ d.room - _; omega, ?_⟩
  · rcases List.mem_append.1 hp with h1 | h1
    · exact h.ok p h1
    · exact (witP_ok d.o k hk).1 p h1
  · show ((lenP (d.ps ++ witP d.o k) : Nat) : Int) + (d.room - _) = _
    rw [lenP_append]
    have := h.sum
    omega
/-- What holds in a round. -/
structure Lp (w W : World) (src : Ad) (P : Nat) (d : DS) (a : Option Addr) (n c : Nat) (ps : List Pc) (v : Value) (qs : List Part) : Prop where
  bel : Below w.heap.size w W
  rS : Row W w.heap.size 26 (acells src)
  dr : Dr w.heap.size W P d a n c ps
  ac : Ac w.heap.size W v qs
section
variable {w W W' : World} {src : Ad} {P : Nat} {d : DS} {a : Option Addr} {n c : Nat} {ps : List Pc} {v : Value} {qs : List Part}
theorem Lp.below (h : Lp w W src P d a n c ps v qs) (hb : Below W.heap.size W W') : Lp w W' src P d a n c ps v qs := ⟨bt h.bel hb, h.rS.below hb h.rS.lt, h.dr.below hb, h.ac.below hb⟩
theorem Lp.taken {d' : DS} {a' : Option Addr} {n' c' : Nat} {ps' : List Pc} (h : Lp w W src P d a n c ps v qs) (hd : Dr w.heap.size W' P d' a' n' c' ps') (hf : Fr W W' P (Value.slice a n c).ownBlock) : Lp w W' src P d' a' n' c' ps' v qs :=
  ⟨hf.bel h.dr h.bel, hf.row h.dr h.rS (by decide) (by decide), hd, ⟨hf.own h.dr h.ac.own (by decide) (by decide), fun q hq => hf.own h.dr (h.ac.bods q hq) (by decide) (by decide)⟩⟩
theorem Lp.app {v' : Value} {q : Part} (h : Lp w W src P d a n c ps v qs) (hq : W.ownsRow w.heap.size 5 1 (.slice q.a q.n q.c) q.n (bcells q.l)) (own' : W'.ownsRow w.heap.size 40 1 v' (qs.length + 1) (svcells (qs ++ [q]))) (hg : W.grownBy W' v.ownBlock) : Lp w W' src P d a n c ps v' (qs ++ [q]) :=
  ⟨h.bel.grown hg h.bel.size (fun k hk => (h.ac.own.lt k hk).1), h.rS.grown hg (own_ne h.ac.own h.rS (by decide)), h.dr.outer h.ac.own hg, h.ac.app hq own' hg⟩
/-- A store into a block of Tlv that is the call's own. -/
theorem Lp.other {g' : Nat} {cs : List Value} (h : Lp w W src P d a n c ps v qs) (hg : W.grownBy W' (some g')) (hr : Row W g' 33 cs) (hge : w.heap.size ≤ g') : Lp w W' src P d a n c ps v qs :=
  ⟨h.bel.grown hg h.bel.size (fun k hk => by cases hk; exact hge), h.rS.grown hg (fun e => (h.rS.ne hr (by decide)) (Option.some.inj e)), ⟨h.dr.row.grown hg (fun e => (h.dr.row.ne hr (by decide)) (Option.some.inj e)), h.dr.ge, own_keep h.dr.own hg (.inl fun e => own_ne h.dr.own hr (by decide) e.symm), h.dr.bods.told hg hr (by decide), h.dr.keys⟩, ⟨own_keep h.ac.own hg (.inl fun e => own_ne h.ac.own hr (by decide) e.symm), fun q hq => own_keep (h.ac.bods q hq) hg (.inl fun e => own_ne (h.ac.bods q hq) hr (by decide) e.symm)⟩⟩
end
/-- What Pack answers. -/
def Packd (w : World) (r : List (List UInt8) × Int) (e : Ending) (w' : World) : Prop := ∃ a n c qs, e = .returned (.tuple #[.slice a n c, .int .i64 r.2]) ∧ qs.map Part.l = r.1 ∧ n = qs.length ∧ Ac w.heap.size w' (.slice a n c) qs ∧ Below w.heap.size w w'
theorem Packd.no {w w' : World} {z : Int} {r : List (List UInt8) × Int} (hr : r = ([], z)) (hb : Below w.heap.size w w') : Packd w r (.returned (.tuple #[.slice none 0 0, .int .i64 z])) w'   := ⟨Option.none, 0, 0, [], by rw [hr], by rw [hr]; rfl, rfl, Ac.nil _ _, hb⟩
end Go.Proofs.Ytognnfknbkedgaa

namespace Go.Proofs.Ytognnfknbkedgaa
open Go.RowKit
set_option linter.unusedSimpArgs false
set_option maxRecDepth 20000

theorem Lp.alloc {w W : World} {src : Ad} {P : Nat} {d : DS} {a : Option Addr} {n c : Nat} {ps : List Pc} {v : Value} {qs : List Part} (h : Lp w W src P d a n c ps v qs) (o : Obj) : Lp w (W.alloc o) src P d a n c ps v qs := h.below (ba _ _)
theorem ldTm {ops : Array Oper} {rest : List Oper} {op : Oper} {a : Act} {w : World} {Q : Exit → Act → World → Prop} (x : Operand) (hw : Region.wanted op (yielded ops a.tmps) = true) (ho : op.op = .load 33 x) (b o : Nat) (t : Tl) (hx : a.eval x = .pointer (some ⟨b, o, none⟩)) (hc : w.rangeAt b o (tcells t))
    (h : wpList Try.prog ops Q rest (a.put op.dst (.agg (tcells t).toArray)) w) : wpList Try.prog ops Q (op :: rest) a w :=
  wpList_step fun K hK => by
    rw [if_pos hw]
    exact wp_load_mid _ x ho b o hx (tcells t) _ hc Try.underlying33 rfl (by rw [infoTs, tcells_len]) (hK _ _ h)
theorem pak_bad {src : Ad} {mtu : Int} {d : DS} {k : TK} {ks : List TK} {acc : List (List UInt8)} (h : ckP k ≠ 0) : pakR src mtu d (k :: ks) acc = ([], ckP k) := by rw [pakR, if_pos h]
theorem pak_yes {src : Ad} {mtu : Int} {d : DS} {k : TK} {ks : List TK} {acc : List (List UInt8)} (h : ckP k = 0) (hb : takB d k = true) : pakR src mtu d (k :: ks) acc = pakR src mtu (takD d k) ks acc := by rw [pakR, if_neg (fun hh => hh h), if_pos hb]
theorem pak_next {src : Ad} {mtu : Int} {d : DS} {k : TK} {ks : List TK} {acc : List (List UInt8)} (h : ckP k = 0) (hb : takB d k = false) (hb' : takB (begD src mtu) k = true) : pakR src mtu d (k :: ks) acc = pakR src mtu (takD (begD src mtu) k) ks (acc ++ [pktD d]) := by rw [pakR, if_neg (fun hh => hh h), if_neg (by rw [hb]; simp), if_pos hb']
theorem pak_mtu {src : Ad} {mtu : Int} {d : DS} {k : TK} {ks : List TK} {acc : List (List UInt8)} (h : ckP k = 0) (hb : takB d k = false) (hb' : takB (begD src mtu) k = false) : pakR src mtu d (k :: ks) acc = ([], 70) := by rw [pakR, if_neg (fun hh => hh h), if_neg (by rw [hb]; simp), if_neg (by rw [hb']; simp)]
theorem ckP_zero {k : TK} (h : ckP k = 0) : chkT k = 0 := by
  unfold ckP at h
  split at h
  · rename_i h1; exact absurd h h1
  · rename_i h1; exact Decidable.not_not.1 h1
theorem Dr.nle {B : Nat} {W : World} {P : Nat} {d : DS} {a : Option Addr} {n c : Nat} {ps : List Pc} {mtu : Int} (h : Dr B W P d a n c ps) (ho : DOk d mtu) (hm : mtu ≤ 65539) : n ≤ 65535 ∧ lenP d.ps ≤ 65535 ∧ d.room ≤ 65535 := by
  have h1 := (own_rws h.own h.bods).len
  have h2 : ps.length = d.ps.length := by rw [← h.keys]; simp [Go.Proofs.Ytognnfknbkedgaa.keys]
  have h3 := lenP_ge d.ps
  have h4 := ho.sum
  have h5 := ho.room
  omega
theorem pack_bad (src : Ad) (mtu : Int) (al : Option Addr) (n cl : Nat) (ks : List TK) (w : World) (hm : mtu < 64 ∨ 65539 < mtu) :
    Calls Try.prog 18 #[(Value.agg (acells src).toArray), .int .i64 mtu, .slice al n cl] w (Packd w (pakL src mtu ks)) := by
  have HE : Hid (pakL src mtu ks = ([], 2)) := by show _ = _; unfold pakL; rw [if_pos hm]
  rcases hm with hm | hm
  · go_enter Try.func18, Try.ntmps18
    go_wp2
    go_ret2
    exact Packd.no HE.out (ba _ _)
  · have hm' : ¬ mtu < 64 := by omega
    go_enter Try.func18, Try.ntmps18
    go_wp2
    go_ret2
    exact Packd.no HE.out (ba _ _)
set_option maxHeartbeats 16000000 in
theorem pack_ok (src : Ad) (mtu : Int) (al : Option Addr) (n cl : Nat) (ts : List Tl) (w : World) (hs : TlW w al n ts) (hf : ∀ t ∈ ts, TFit t.key ∧ t.sn ≤ 100000) (hn : n ≤ 100000) (h0 : 64 ≤ mtu) (h1 : mtu ≤ 65539) :
    Calls Try.prog 18 #[(Value.agg (acells src).toArray), .int .i64 mtu, .slice al n cl] w (Packd w (pakL src mtu (ts.map Tl.key))) := by
  have HN : Hid (n = ts.length) := hs.len.symm
  obtain ⟨R, hR⟩ : ∃ R, pakL src mtu (ts.map Tl.key) = R := ⟨_, rfl⟩
  have HR : Hid (R = pakR src mtu (begD src mtu) (ts.map Tl.key) []) := by
    show _ = _
    rw [← hR]; unfold pakL; rw [if_neg (by omega)]
  rw [hR]
  clear hR
  have HBG : Hid (∀ W, Calls Try.prog 34 #[(Value.agg (acells src).toArray), .int .i64 mtu] W fun e w' => ∃ P, e = .returned (.pointer (some ⟨P, 0, none⟩)) ∧ Dr W.heap.size w' P (begD src mtu) none 0 0 [] ∧ Below W.heap.size W w') := fun W => begin7_any src mtu W (by omega) h1
  have HBO : Hid (DOk (begD src mtu) mtu) := DOk.beg src h0
  have RS := Row.new w 26 (acells src)
  have hm1 : ¬ mtu < 64 := by omega
  have hm2 : ¬ 65539 < mtu := by omega
  go_enter Try.func18, Try.ntmps18
  go_wp2_with (first
    | (go_at_call 34; refine (HBG.out _).mono ?_; rintro e w1 ⟨P1, rfl, D1, b1⟩; have H1 : Lp w w1 src P1 (begD src mtu) none 0 0 [] (.slice none 0 0) [] := ⟨bt (ba _ _) b1, RS.below b1 RS.lt, D1.le (by simp), Ac.nil _ _⟩)
    | (refine ldA (.tmp 3) (by rfl) rfl w.heap.size 0 src rfl RS.range ?_))
  clear RS D1 b1
  go_loopw [8, 9, 24] (fun v p i wr => ∃ (j P : Nat) (d : DS) (a : Option Addr) (m c : Nat) (ps : List Pc) (qs : List Part), j ≤ n ∧ i = .int .i64 j ∧ p = .pointer (some ⟨P, 0, none⟩) ∧ Lp w wr src P d a m c ps v qs ∧ DOk d mtu ∧ qs.length ≤ j ∧ Hid (R = pakR src mtu d ((ts.drop j).map Tl.key) (qs.map Part.l))) (fun _ _ i _ => n - (intOf i).toNat)
  case atStart => exact ⟨0, P1, begD src mtu, none, 0, 0, [], [], Nat.zero_le _, rfl, rfl, H1, HBO.out, Nat.le_refl _, HR.out⟩
  case round =>
    clear H1 HR
    obtain ⟨j, P, d, a, m, c, ps, qs, hj, rfl, rfl, H, hok, hqj, HR⟩ := hrel
    obtain ⟨hm3, hl3, hr3⟩ := H.dr.nle hok h1
    by_cases hlt : j < n
    · have hjk : j < ts.length := by have := HN.out; omega
      obtain ⟨gl, ol, rfl, hgl, rl⟩ := (hs.below H.bel).at hjk
      have hdrop : (ts.drop j).map Tl.key = ts[j].key :: (ts.drop (j + 1)).map Tl.key := by rw [List.drop_eq_getElem_cons hjk]; rfl
      have ht := hs.stms ts[j] (List.getElem_mem hjk)
      have hft := hf ts[j] (List.getElem_mem hjk)
      rw [hdrop] at HR
      clear hdrop
      generalize ts[j] = t at *
      have HT : Hid (∀ W, Below w.heap.size w W → TSrc W t) := fun W hW => Src.below ht hW (Src.lt ht)
      have HCK : Hid (∀ W, Below w.heap.size w W → Calls Try.prog 35 #[.agg (tcells t).toArray] W (Gives W (.int .i64 (ckP t.key)))) := fun W hW => pcheck_any t W (HT.out W hW) hft.2
      obtain ⟨z, hz⟩ : ∃ z, ckP t.key = z := ⟨_, rfl⟩
      rw [hz] at HCK
      by_cases hz0 : z = 0
      · subst hz0
        have hTO := TOk.of hft.1 (ckP_zero hz)
        have hwl : lenP (witP d.o t.key) ≤ 1000 := (witP_ok d.o t.key hTO).2
        cases htk : takB d t.key
        · have HTN : Hid (∀ W, Lp w W src P d a m c ps u8 qs → Calls Try.prog 36 #[.pointer (some ⟨P, 0, none⟩), .agg (tcells t).toArray] W fun e w' => e = .returned (.bool false) ∧ Below W.heap.size W w') := fun W hW => take_no7 w.heap.size t W P d a m c ps hW.dr (HT.out W hW.bel) hTO hwl htk
          have HPK : Hid (∀ W, Lp w W src P d a m c ps u8 qs → Calls Try.prog 37 #[.pointer (some ⟨P, 0, none⟩)] W (LaidN W (pktD d))) := fun W hW => pkt_any w.heap.size W P d a m c ps hW.dr hok.ok hl3 (by omega)
          have hwl2 : lenP (witP (begD src mtu).o t.key) ≤ 1000 := (witP_ok _ t.key hTO).2
          cases htk2 : takB (begD src mtu) t.key
          · have HT2 : Hid (∀ W P' v' qs', Lp w W src P' (begD src mtu) none 0 0 [] v' qs' → Calls Try.prog 36 #[.pointer (some ⟨P', 0, none⟩), .agg (tcells t).toArray] W fun e w' => e = .returned (.bool false) ∧ Below W.heap.size W w') := fun W P' v' qs' hW => take_no7 w.heap.size t W P' (begD src mtu) none 0 0 [] hW.dr (HT.out W hW.bel) hTO hwl2 htk2
            have HE : Hid (R = ([], 70)) := by show _ = _; rw [HR.out, pak_mtu hz htk htk2]
            clear hz htk htk2 hTO hwl hwl2 hf hs HR ht hft hm3 hl3 hr3 hok
            obtain ⟨PB, hPB⟩ : ∃ l, pktD d = l := ⟨_, rfl⟩
            rw [hPB] at HPK 
            clear hPB
            go_wp2_with (first
              | (go_at_call 36; have kk := b5; refine (HTN.out _ H5).mono ?_; rintro e w6 ⟨rfl, b6⟩; have H6 := H5.below b6; have rT6 := rT5.below b6 rT5.lt)
              | (have kk := b5; refine ldT (.tmp 11) (by rfl) rfl gT t rfl rT5 ?_)
              | (go_at_call 35; have kk := rT4; refine (HCK.out _ H4.bel).mono ?_; rintro e w5 ⟨rfl, b5⟩; have H5 := H4.below b5; have rT5 := rT4.below b5 rT4.lt)
              | (have kk := rT4; refine ldT (.tmp 11) (by rfl) rfl gT t rfl rT4 ?_)
              | (have kk := rT3; refine stT (.tmp 11) (.tmp 27) (by rfl) rfl gT t _ rfl rfl rT3 ?_; intro w4 hg4 rT4; have H4 := H3.other hg4 rT3 hgT)
              | (refine alG infoTz (by rfl) rfl ?_; intro gT w3 t1 t2 t3 rT3; have hgT := Nat.le_trans H.bel.size t1; have H3 := H.below t3)
              | (refine ldTm (.tmp 26) (by rfl) rfl gl (ol + j * 68) t rfl rl ?_))
            have HX := H6.below (bd w6)
            have rT := rT6.below (bd w6) rT6.lt
            have rSX := HX.rS
            clear H H3 H4 H5 H6 rT3 rT4 rT5 rT6 rl
            refine wp_region_noPanic ?_
            refine wp_region_held_drew (S := fun W => Row W w.heap.size 26 (acells src)) (by kernel_rfl) (HX.rS) (fun hHeld => ?_)
            refine tA 0 ?_
            refine tA 1 ?_
            refine tL 5 rfl (yA src (fun W hW => hW.range) (by rfl) rfl rfl) ?_
            refine tA 6 ?_
            refine r1 2 fun K hK => ?_
            go_simp
            refine (HPK.out _ HX).mono ?_
            rintro e w12 ⟨ka, kn, kc, rfl, oKq, d2⟩
            replace oKq := own_le oKq HX.bel.size
            replace HX := HX.below d2
            replace rT := rT.below d2 rT.lt
            try replace D2 := D2.below d2
            clear d2
            refine oK hK (by exact HX.rS) fun hHeld => ?_
            clear hK K
            refine r1 3 fun K hK => ?_
            refine sBS [(0, .tmp 39)] (svcells [⟨ka, kn, kc, PB⟩]) (by rfl) rfl (rbS_1 ⟨ka, kn, kc, PB⟩) rfl ?_
            intro g3 w13 s3 d3
            replace oKq := own_keep oKq (grownBy_below none d3) (.inr rfl)
            replace HX := HX.below d3
            replace rT := rT.below d3 rT.lt
            try replace D2 := D2.below d3
            clear d3
            refine oK hK (by exact HX.rS) fun hHeld => ?_
            clear hK K
            refine r1 4 fun K hK => ?_
            refine sAppS (.tmp 37) (.tmp 40) (by rfl) rfl w.heap.size u8 qs.length qs rfl HX.ac.own ⟨g3, 0, none⟩ 1 ⟨ka, kn, kc, PB⟩ rfl s3 (by omega) HX.bel.size ?_
            intro v4 w14 own4 hg4
            replace rT := rT.grown hg4 (own_ne HX.ac.own rT (by decide))
            try replace D2 := D2.outer HX.ac.own hg4
            replace HX := HX.app (q := ⟨ka, kn, kc, PB⟩) oKq own4 hg4
            clear oKq s3
            refine oK hK (by exact HX.rS) fun hHeld => ?_
            clear hK K
            refine r1 7 fun K hK => ?_
            go_simp
            refine (HBG.out _).mono ?_
            rintro e w17 ⟨P2, rfl, D2, d7⟩
            replace D2 := D2.le HX.bel.size
            try replace oKq := own_keep oKq (grownBy_below none d7) (.inr rfl)
            try replace s3 := s3.below d7 s3.lt
            replace HX := HX.below d7
            replace rT := rT.below d7 rT.lt
            clear d7
            refine oK hK (by exact HX.rS) fun hHeld => ?_
            clear hK K
            refine tA 8 ?_
            refine tA 9 ?_
            refine dN ?_
            refine NoPanic.normal ?_
            clear hHeld
            replace HX : Lp w _ src P2 (begD src mtu) none 0 0 [] _ _ := ⟨HX.bel, HX.rS, D2, HX.ac⟩
            go_wp2_with (first
              | (go_at_call 36; refine (HT2.out _ _ _ _ HX).mono ?_; rintro e w40 ⟨rfl, b40⟩)
              | (refine ldT (.tmp 11) (by rfl) rfl gT t rfl rT ?_))
            go_ret2
            exact Packd.no HE.out (bt HX.bel b40)
          · have HT2 : Hid (∀ W P' v' qs', Lp w W src P' (begD src mtu) none 0 0 [] v' qs' → Calls Try.prog 36 #[.pointer (some ⟨P', 0, none⟩), .agg (tcells t).toArray] W fun e w' => e = .returned (.bool true) ∧ (∃ a' n' c' ps', Dr w.heap.size w' P' (takD (begD src mtu) t.key) a' n' c' ps' ∧ n' ≤ 0 + 1000) ∧ Fr W w' P' (Value.slice none 0 0).ownBlock) := fun W P' v' qs' hW => take_yes7 w.heap.size t W P' (begD src mtu) none 0 0 [] hW.dr (HT.out W hW.bel) hTO hwl2 htk2 hW.bel.size (by omega) (by show mtu - 4 ≤ 70000; omega)
            have HE : Hid (R = pakR src mtu (takD (begD src mtu) t.key) ((ts.drop (j + 1)).map Tl.key) (qs.map Part.l ++ [pktD d])) := by show _ = _; rw [HR.out, pak_next hz htk htk2]
            have HOK := HBO.out.tak hTO htk2
            clear hz htk htk2 hTO hwl hwl2 hf hs HR ht hft hm3 hl3 hr3 hok
            obtain ⟨PB, hPB⟩ : ∃ l, pktD d = l := ⟨_, rfl⟩
            rw [hPB] at HPK HE
            clear hPB
            go_wp2_with (first
              | (go_at_call 36; have kk := b5; refine (HTN.out _ H5).mono ?_; rintro e w6 ⟨rfl, b6⟩; have H6 := H5.below b6; have rT6 := rT5.below b6 rT5.lt)
              | (have kk := b5; refine ldT (.tmp 11) (by rfl) rfl gT t rfl rT5 ?_)
              | (go_at_call 35; have kk := rT4; refine (HCK.out _ H4.bel).mono ?_; rintro e w5 ⟨rfl, b5⟩; have H5 := H4.below b5; have rT5 := rT4.below b5 rT4.lt)
              | (have kk := rT4; refine ldT (.tmp 11) (by rfl) rfl gT t rfl rT4 ?_)
              | (have kk := rT3; refine stT (.tmp 11) (.tmp 27) (by rfl) rfl gT t _ rfl rfl rT3 ?_; intro w4 hg4 rT4; have H4 := H3.other hg4 rT3 hgT)
              | (refine alG infoTz (by rfl) rfl ?_; intro gT w3 t1 t2 t3 rT3; have hgT := Nat.le_trans H.bel.size t1; have H3 := H.below t3)
              | (refine ldTm (.tmp 26) (by rfl) rfl gl (ol + j * 68) t rfl rl ?_))
            have HX := H6.below (bd w6)
            have rT := rT6.below (bd w6) rT6.lt
            have rSX := HX.rS
            clear H H3 H4 H5 H6 rT3 rT4 rT5 rT6 rl
            refine wp_region_noPanic ?_
            refine wp_region_held_drew (S := fun W => Row W w.heap.size 26 (acells src)) (by kernel_rfl) (HX.rS) (fun hHeld => ?_)
            refine tA 0 ?_
            refine tA 1 ?_
            refine tL 5 rfl (yA src (fun W hW => hW.range) (by rfl) rfl rfl) ?_
            refine tA 6 ?_
            refine r1 2 fun K hK => ?_
            go_simp
            refine (HPK.out _ HX).mono ?_
            rintro e w12 ⟨ka, kn, kc, rfl, oKq, d2⟩
            replace oKq := own_le oKq HX.bel.size
            replace HX := HX.below d2
            replace rT := rT.below d2 rT.lt
            try replace D2 := D2.below d2
            clear d2
            refine oK hK (by exact HX.rS) fun hHeld => ?_
            clear hK K
            refine r1 3 fun K hK => ?_
            refine sBS [(0, .tmp 39)] (svcells [⟨ka, kn, kc, PB⟩]) (by rfl) rfl (rbS_1 ⟨ka, kn, kc, PB⟩) rfl ?_
            intro g3 w13 s3 d3
            replace oKq := own_keep oKq (grownBy_below none d3) (.inr rfl)
            replace HX := HX.below d3
            replace rT := rT.below d3 rT.lt
            try replace D2 := D2.below d3
            clear d3
            refine oK hK (by exact HX.rS) fun hHeld => ?_
            clear hK K
            refine r1 4 fun K hK => ?_
            refine sAppS (.tmp 37) (.tmp 40) (by rfl) rfl w.heap.size u8 qs.length qs rfl HX.ac.own ⟨g3, 0, none⟩ 1 ⟨ka, kn, kc, PB⟩ rfl s3 (by omega) HX.bel.size ?_
            intro v4 w14 own4 hg4
            replace rT := rT.grown hg4 (own_ne HX.ac.own rT (by decide))
            try replace D2 := D2.outer HX.ac.own hg4
            replace HX := HX.app (q := ⟨ka, kn, kc, PB⟩) oKq own4 hg4
            clear oKq s3
            refine oK hK (by exact HX.rS) fun hHeld => ?_
            clear hK K
            refine r1 7 fun K hK => ?_
            go_simp
            refine (HBG.out _).mono ?_
            rintro e w17 ⟨P2, rfl, D2, d7⟩
            replace D2 := D2.le HX.bel.size
            try replace oKq := own_keep oKq (grownBy_below none d7) (.inr rfl)
            try replace s3 := s3.below d7 s3.lt
            replace HX := HX.below d7
            replace rT := rT.below d7 rT.lt
            clear d7
            refine oK hK (by exact HX.rS) fun hHeld => ?_
            clear hK K
            refine tA 8 ?_
            refine tA 9 ?_
            refine dN ?_
            refine NoPanic.normal ?_
            clear hHeld
            replace HX : Lp w _ src P2 (begD src mtu) none 0 0 [] _ _ := ⟨HX.bel, HX.rS, D2, HX.ac⟩
            go_wp2_with (first
              | (go_at_call 36; refine (HT2.out _ _ _ _ HX).mono ?_; rintro e w40 ⟨rfl, ⟨a4, n4, c4, p4, D4, _⟩, f4⟩; have H40 := HX.taken D4 f4)
              | (refine ldT (.tmp 11) (by rfl) rfl gT t rfl rT ?_))
            go_roundw
            case rel => exact ⟨j + 1, P2, _, a4, n4, c4, p4, _, by omega, by go_num, rfl, H40, HOK, by simp; omega, by show _ = _; rw [HE.out]; simp⟩
            case measure => simp [intOf]; omega
        · have HTY : Hid (∀ W, Lp w W src P d a m c ps u8 qs → Calls Try.prog 36 #[.pointer (some ⟨P, 0, none⟩), .agg (tcells t).toArray] W fun e w' => e = .returned (.bool true) ∧ (∃ a' n' c' ps', Dr w.heap.size w' P (takD d t.key) a' n' c' ps' ∧ n' ≤ m + 1000) ∧ Fr W w' P (Value.slice a m c).ownBlock) := fun W hW => take_yes7 w.heap.size t W P d a m c ps hW.dr (HT.out W hW.bel) hTO hwl htk hW.bel.size (by omega) (by omega)
          have HE : Hid (R = pakR src mtu (takD d t.key) ((ts.drop (j + 1)).map Tl.key) (qs.map Part.l)) := by show _ = _; rw [HR.out, pak_yes hz htk]
          have HOK := hok.tak hTO htk
          clear hz htk hTO hwl hf hs HR ht hft hm3 hl3 hr3 hok
          go_wp2_with (first
            | (go_at_call 36; have kk := b5; refine (HTY.out _ H5).mono ?_; rintro e w6 ⟨rfl, ⟨a6, m6, c6, p6, D6, _⟩, f6⟩; have H6 := H5.taken D6 f6)
            | (have kk := b5; refine ldT (.tmp 11) (by rfl) rfl gT t rfl rT5 ?_)
            | (go_at_call 35; have kk := rT4; refine (HCK.out _ H4.bel).mono ?_; rintro e w5 ⟨rfl, b5⟩; have H5 := H4.below b5; have rT5 := rT4.below b5 rT4.lt)
            | (have kk := rT4; refine ldT (.tmp 11) (by rfl) rfl gT t rfl rT4 ?_)
            | (have kk := rT3; refine stT (.tmp 11) (.tmp 27) (by rfl) rfl gT t _ rfl rfl rT3 ?_; intro w4 hg4 rT4; have H4 := H3.other hg4 rT3 hgT)
            | (refine alG infoTz (by rfl) rfl ?_; intro gT w3 t1 t2 t3 rT3; have hgT := Nat.le_trans H.bel.size t1; have H3 := H.below t3)
            | (refine ldTm (.tmp 26) (by rfl) rfl gl (ol + j * 68) t rfl rl ?_))
          go_roundw
          case rel => exact ⟨j + 1, P, _, a6, m6, c6, p6, qs, by omega, by go_num, rfl, H6, HOK, by omega, HE.out⟩
          case measure => simp [intOf]; omega
      · have hne : (z != 0) = true := by simpa using hz0
        have HE : Hid (R = ([], z)) := by show _ = _; rw [HR.out, pak_bad (by rw [hz]; exact hz0), hz]
        clear hz hz0 hf hs HR ht hft
        go_wp2_with (first
          | (go_at_call 35; have kk := rT4; refine (HCK.out _ H4.bel).mono ?_; rintro e w5 ⟨rfl, b5⟩; have H5 := H4.below b5)
          | (have kk := rT4; refine ldT (.tmp 11) (by rfl) rfl gT t rfl rT4 ?_)
          | (have kk := rT3; refine stT (.tmp 11) (.tmp 27) (by rfl) rfl gT t _ rfl rfl rT3 ?_; intro w4 hg4 rT4; have H4 := H3.other hg4 rT3 hgT)
          | (refine alG infoTz (by rfl) rfl ?_; intro gT w3 t1 t2 t3 rT3; have hgT := Nat.le_trans H.bel.size t1; have H3 := H.below t3)
          | (refine ldTm (.tmp 26) (by rfl) rfl gl (ol + j * 68) t rfl rl ?_))
        go_ret2
        exact Packd.no HE.out H5.bel
    · obtain rfl : n = j := by omega
      have HE : Hid (R = (if d.ps = [] then qs.map Part.l else qs.map Part.l ++ [pktD d], 0)) := by
        show _ = _
        rw [HR.out, List.drop_eq_nil_of_le (by have := HN.out; omega)]
        rfl
      have hml : m = ps.length := (own_rws H.dr.own H.dr.bods).len.symm
      have hpl : ps.length = d.ps.length := by rw [← H.dr.keys]; simp [keys]
      have c43 := (d42 H.dr.row).2
      by_cases hm0 : m = 0
      · have e0 : d.ps = [] := List.eq_nil_of_length_eq_zero (by omega)
        rw [if_pos e0] at HE
        subst hm0
        clear hml hpl e0
        go_wp2
        go_ret2
        obtain ⟨aF, cF, rfl⟩ := own_shape2 H.ac.own
        exact ⟨aF, _, cF, qs, by rw [HE.out]; rfl, by rw [HE.out], rfl, H.ac, H.bel⟩
      · have e0 : d.ps ≠ [] := fun e => hm0 (by rw [hml, hpl, e]; rfl)
        rw [if_neg e0] at HE
        have hm4 : ¬ (m : Int) ≤ 0 := by omega
        have hm5 : (0 : Int) < (m : Int) := by omega
        have HPK : Hid (Calls Try.prog 37 #[.pointer (some ⟨P, 0, none⟩)] wr (LaidN wr (pktD d))) := pkt_any w.heap.size wr P d a m c ps H.dr hok.ok hl3 (by omega)
        have HML : Hid (m = ps.length) := hml
        clear hml hpl e0 hm0 hok hf hs HR
        obtain ⟨PB, hPB⟩ : ∃ l, pktD d = l := ⟨_, rfl⟩
        rw [hPB] at HPK HE
        clear hPB
        go_wp2_with (first
          | (at_builtin; have kk := o6; refine appS rfl (.tmp 56) (.tmp 59) rfl w.heap.size u8 qs.length qs rfl (H6.alloc _).ac.own ⟨w6.heap.size, 0, none⟩ 1 ⟨a6, n6, c6, PB⟩ rfl (new_src_of w6 #[.slice a6 n6 c6] 40) (by omega) (H6.alloc _).bel.size ?_; intro v7 w7 own7 hg7; have H7 := (H6.alloc (.cells #[.slice a6 n6 c6] 40)).app (q := ⟨a6, n6, c6, PB⟩) (own_keep o6 (World.grownBy_alloc _ _ none) (.inr rfl)) own7 hg7)
          | (go_at_call 37; refine HPK.out.mono ?_; rintro e w6 ⟨a6, n6, c6, rfl, o6, b6⟩; replace o6 := own_le o6 H.bel.size; have H6 := H.below b6))
        go_ret2
        obtain ⟨aF, cF, rfl⟩ := own_shape2 H7.ac.own
        exact ⟨aF, _, cF, _, by rw [HE.out]; rfl, by rw [HE.out]; simp, rfl, H7.ac, H7.bel⟩
end Go.Proofs.Ytognnfknbkedgaa

namespace Go.Proofs.Ytognnfknbkedgaa
open Go.RowKit
set_option linter.unusedSimpArgs false
set_option maxRecDepth 20000

def l7I : Id8 := ⟨[0, 0, 0, 0, 0, 0, 0, 1], rfl⟩
def l7P (b : UInt8) : Pf := ⟨⟨[b, 0, 0, 0, 0, 0, 0, 0, 0, 0, 0, 0, 0, 0, 0, 0], rfl⟩, 8⟩
def l7T (b : UInt8) : Tl := { zeroT with ty := 8, intv := 100, seq := 1, met := 32, id := l7I, ad := lwS, pr := ⟨l7P b, zeroP⟩ }
def l7B : List UInt8 := [42, 2, 0, 38, 6, 10, 0, 0, 0, 0, 0, 0, 0, 0, 0, 1, 8, 11, 2, 0, 8, 0, 0, 100, 0, 1, 0, 32, 32, 8, 11, 2, 0, 8, 0, 0, 100, 0, 1, 0, 32, 33]
theorem l7_pak : pakL lwS 1000 ([l7T 32, l7T 33].map Tl.key) = ([l7B], 0) := by kernel_rfl
theorem l7_chk : chkT (l7T 32).key = 0 := by kernel_rfl
theorem l7_len : 2 + (bodL (l7T 32).key).length = 13 := by kernel_rfl
theorem l7_parE : parE l7B = 0 := by kernel_rfl
theorem l7_par : parL lwS l7B = [l7T 32, l7T 33].map Tl.key := by kernel_rfl
theorem l7_fit (t : Tl) (h : t ∈ [l7T 32, l7T 33]) : TFit t.key ∧ t.sn ≤ 100000 := by
  simp at h
  rcases h with rfl | rfl <;> exact ⟨⟨by decide, by decide, by decide, by decide, by decide, by decide, by decide⟩, by decide⟩
theorem l7SE : Value.agg #[.int .u8 254, .int .u8 128, .int .u8 0, .int .u8 0, .int .u8 0, .int .u8 0, .int .u8 0, .int .u8 0, .int .u8 0, .int .u8 0, .int .u8 0, .int .u8 0, .int .u8 0, .int .u8 0, .int .u8 0, .int .u8 1] = (Value.agg (acells lwS).toArray) := by kernel_rfl
theorem l7QE : Value.agg #[.int .u8 32, .int .u8 0, .int .u8 0, .int .u8 0, .int .u8 0, .int .u8 0, .int .u8 0, .int .u8 0, .int .u8 0, .int .u8 0, .int .u8 0, .int .u8 0, .int .u8 0, .int .u8 0, .int .u8 0, .int .u8 0, .int .i64 8, .int .u8 0, .int .u8 0, .int .u8 0, .int .u8 0, .int .u8 0, .int .u8 0, .int .u8 0, .int .u8 0, .int .u8 0, .int .u8 0, .int .u8 0, .int .u8 0, .int .u8 0, .int .u8 0, .int .u8 0, .int .u8 0, .int .i64 0] = (Value.agg (qcells (⟨l7P 32, zeroP⟩)).toArray) := by kernel_rfl
theorem l7bd (w : World) : (Instr.build 33 #[(0, .int .u8 8), (2, .int .u16 100), (3, .int .u16 1), (5, .int .u16 32), (9, .agg #[.int .u8 0, .int .u8 0, .int .u8 0, .int .u8 0, .int .u8 0, .int .u8 0, .int .u8 0, .int .u8 1]), (10, (Value.agg (acells lwS).toArray)), (11, (Value.agg (qcells (⟨l7P 32, zeroP⟩)).toArray))]).run Try.prog w = .ok (.agg (tcells (l7T 32)).toArray) w := by kernel_rfl
theorem l7set : (tcells (l7T 32)).set 33 (.int .u8 33) = tcells (l7T 33) := by kernel_rfl
theorem l7bs (w : World) : (Instr.buildSlice 41 2 #[(0, .agg (tcells (l7T 32)).toArray), (1, .agg (tcells (l7T 33)).toArray)]).run Try.prog w = .ok (.slice (some ⟨w.heap.size, 0, none⟩) 2 2) (w.alloc (.cells (tcs [l7T 32, l7T 33]).toArray 33)) := by kernel_rfl
theorem tlw_new (w : World) (ts : List Tl) (hs : ∀ t ∈ ts, t.sa = none ∧ t.sn = 0 ∧ t.sc = 0 ∧ t.st = []) : TlW (w.alloc (.cells (tcs ts).toArray 33)) (some ⟨w.heap.size, 0, none⟩) ts.length ts := by
  have R := Row.new w 33 (tcs ts)
  refine ⟨rfl, fun _ => ⟨w.heap.size, 0, rfl, R.lt, fun j t ht i v hv => ?_⟩, fun t ht => ?_⟩
  · have hi : i < 68 := by have := (List.getElem?_eq_some_iff.1 hv).1; rwa [tcells_len] at this
    rw [R.cell, Nat.zero_add, tcs_get ts j t ht i hi]
    exact hv
  · obtain ⟨h1, h2, h3, h4⟩ := hs t ht
    unfold TSrc
    rw [h1, h2, h3, h4]
    exact Src.nil _
theorem l7none (t : Tl) (h : t ∈ [l7T 32, l7T 33]) : t.sa = none ∧ t.sn = 0 ∧ t.sc = 0 ∧ t.st = [] := by
  simp at h
  rcases h with rfl | rfl <;> exact ⟨rfl, rfl, rfl, rfl⟩
section
variable {ops : Array Oper} {rest : List Oper} {op : Oper} {a : Act} {w : World} {Q : Exit → Act → World → Prop}
theorem bsL7 (x y : Operand) (hw : Region.wanted op (yielded ops a.tmps) = true) (ho : op.op = .buildSlice 41 2 #[(0, x), (1, y)]) (hx : a.eval x = .agg (tcells (l7T 32)).toArray) (hy : a.eval y = .agg (tcells (l7T 33)).toArray)
    (h : ∀ g W, Below w.heap.size w W → TlW W (some ⟨g, 0, none⟩) 2 [l7T 32, l7T 33] → wpList Try.prog ops Q rest (a.put op.dst (.slice (some ⟨g, 0, none⟩) 2 2)) W) : wpList Try.prog ops Q (op :: rest) a w :=
  wpList_step fun K hK => by
    rw [if_pos hw]
    unfold Oper.wp execOp
    simp only [ho, List.map_toArray, List.map_cons, List.map_nil, hx, hy, Sem.run_bind, l7bs, Result.andThen_ok, Sem.run_pure]
    exact hK _ _ (h _ _ (ba _ _) (tlw_new w [l7T 32, l7T 33] l7none))
end
theorem l7_pack (W : World) (g : Nat) (hs : TlW W (some ⟨g, 0, none⟩) 2 [l7T 32, l7T 33]) :
    Calls Try.prog 18 #[(Value.agg (acells lwS).toArray), .int .i64 1000, .slice (some ⟨g, 0, none⟩) 2 2] W fun e w' => ∃ g' c qa qc, e = .returned (.tuple #[.slice (some ⟨g', 0, none⟩) 1 c, .int .i64 0]) ∧ g' < w'.heap.size ∧ w'.cell? ⟨g', 0, none⟩ = some (.slice qa 42 qc) ∧ Src w' qa 42 qc (bcells l7B) ∧ Below W.heap.size W w' := by
  refine (pack_ok lwS 1000 (some ⟨g, 0, none⟩) 2 2 [l7T 32, l7T 33] W hs l7_fit (by decide) (by decide) (by decide)).mono ?_
  rintro e w' ⟨a, n, c, qs, rfl, hq, hn, hac, hb⟩
  rw [l7_pak] at hq ⊢
  match qs, hq, hn, hac with
  | [q], hq, hn, hac =>
    simp at hq
    subst hn
    obtain ⟨own, bods⟩ := hac
    have hs := own_srcP (bods q (by simp))
    rw [hq] at hs
    have h42 : q.n = 42 := hs.blen
    rw [h42] at hs
    rcases own.2 with ⟨h1, h2⟩ | ⟨g', cap, cur, h1, hB, hh, hr⟩
    · simp at h2
    · injection h1 with h2 h3 h4
      subst h2
      have hc := own.cells rfl 0 (.slice q.a q.n q.c) rfl
      rw [h42] at hc
      exact ⟨g', c, q.a, q.c, rfl, lt_of_block hh, by rw [Addr.add_lit, Nat.zero_add] at hc; exact hc, hs, hb⟩
  | [], hq, _, _ => simp at hq
  | _ :: _ :: _, hq, _, _ => simp at hq
theorem l7_parse (W : World) (a : Option Addr) (c : Nat) (hs : Src W a 42 c (bcells l7B)) :
    Calls Try.prog 14 #[(Value.agg (acells lwS).toArray), .slice a 42 c] W fun e w' => ∃ a c ts, e = .returned (.tuple #[.slice a 2 c, .int .i64 0]) ∧ TlW w' a 2 ts ∧ Hid (ts.map Tl.key = [l7T 32, l7T 33].map Tl.key) ∧ Below W.heap.size W w' := by
  refine (parse_any lwS a _ c _ W hs (by decide)).mono ?_
  rintro e w' ⟨a, c, ts, rfl, hk, _, ht, hb⟩
  rw [l7_par] at hk
  rw [l7_parE]
  have hl : ts.length = 2 := by have := congrArg List.length hk; simpa using this
  have htl := ht.tlw
  rw [hl] at htl ⊢
  exact ⟨a, c, ts, rfl, htl, hk, hb⟩
theorem l7_size (W : World) : Calls Try.prog 20 #[.agg (tcells (l7T 32)).toArray] W (Gives W (.int .i64 13)) := by
  have := size_any (l7T 32) W (Src.nil _) (by decide) (l7_fit (l7T 32) (by simp)).1
  rw [if_pos l7_chk, l7_len] at this
  exact this
theorem num7 (x : Int) (w : World) : Calls Try.prog 19 #[.int .i64 x] w fun e w' => e = .returned (.int .i64 x) ∧ w = w' := by
  go_enter Try.func19, Try.ntmps19
  go_wp2
  go_ret
  exact ⟨rfl, rfl⟩
theorem l7_bad (W : World) (g : Nat) : Calls Try.prog 18 #[(Value.agg (acells lwS).toArray), .int .i64 63, .slice (some ⟨g, 0, none⟩) 1 1] W fun e w' => ∃ a n c, e = .returned (.tuple #[.slice a n c, .int .i64 2]) ∧ Below W.heap.size W w' := by
  refine (pack_bad lwS 63 (some ⟨g, 0, none⟩) 1 1 [] W (.inl (by decide))).mono ?_
  rintro e w' ⟨a, n, c, qs, rfl, _, _, _, hb⟩
  exact ⟨a, n, c, rfl, hb⟩
theorem l7_sames (W : World) (a : Option Addr) (c g : Nat) (ts : List Tl) (h : TlW W a 2 ts) (hk : Hid (ts.map Tl.key = [l7T 32, l7T 33].map Tl.key)) (h2 : TlW W (some ⟨g, 0, none⟩) 2 [l7T 32, l7T 33]) : Calls Try.prog 15 #[.slice a 2 c, .slice (some ⟨g, 0, none⟩) 2 2] W fun e w' => e = .returned (.bool true) ∧ Below W.heap.size W w' := by
  refine sames_true a (some ⟨g, 0, none⟩) 2 c 2 ts [l7T 32, l7T 33] W h h2 hk.out (by decide) (fun t ht => ?_)
  have hm : t.key ∈ [l7T 32, l7T 33].map Tl.key := by rw [← hk.out]; exact List.mem_map.2 ⟨t, ht, rfl⟩
  simp at hm
  have e : t.st = t.key.st := rfl
  rcases hm with h | h <;> (rw [e, h]; decide)
end Go.Proofs.Ytognnfknbkedgaa
