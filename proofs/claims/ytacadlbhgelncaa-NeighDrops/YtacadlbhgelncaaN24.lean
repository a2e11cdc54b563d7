/-
  Tick of the table.
-/
import Derived.Test.YtacadlbhgelncaaN23
import Derived.Test.YtacadlbhgelncaaN16
namespace Go.Proofs.Ytacadlbhgelncaa
open Lk (Hi hcs hcs_one)
open Rk (Rt rcs rtV)
open Go.RowKit Go.Maps Go.Shelf
set_option linter.unusedSimpArgs false
set_option linter.unusedVariables false
set_option maxRecDepth 20000
section
variable {ops : Array Oper} {rest : List Oper} {op : Oper} {a : Act} {w w' : World} {Q : Exit → Act → World → Prop} {K : Act → World → Prop} {E : Prop} {S : World → Prop}
theorem sDel {T U : TypeId} (m k : Operand) {mv kv : Value} (hw : Region.wanted op (yielded ops a.tmps) = true) (ho : op.op = .call { callee := .builtin .delete, args := #[m, k], argTypes := #[T, U] }) (hm : a.eval m = mv) (hk : a.eval k = kv)
    (hr : (Builtin.delete_ #[T, U] op.type #[mv, kv]).run Try.prog w = .ok (.tuple #[]) w') (h : K (a.put op.dst (.tuple #[])) w') : if Region.wanted op (yielded ops a.tmps) = true then Oper.wp Try.prog op a w K Q else E := by
  rw [if_pos hw]
  unfold Oper.wp
  simp [execOp, ho, resolve, invoke, builtin, hm, hk, hr, Result.andThen]
  exact h
end
/-- Nothing is heard of it. -/
def deadB (n : Ng) : Bool := decide (n.m.b = 0) && decide (n.u.b = 0)
/-- Who is left when the first j have been looked at, and who is gone. -/
def leftL (K : List Ng) (now : Int) (j : Nat) : List Ng := ((K.take j).map (agedN · now)).filter (fun n => !deadB n) ++ K.drop j
def goneL (K : List Ng) (now : Int) (j : Nat) : List Ng := ((K.take j).map (agedN · now)).filter deadB
theorem putN_mid {A D : List Ng} {n n' : Ng} (hn : keyB n'.i n'.a n = true) (hA : ∀ x ∈ A, keyB n'.i n'.a x = false) (hD : ∀ x ∈ D, keyB n'.i n'.a x = false) : putN (A ++ n :: D) n' = A ++ n' :: D := by
  unfold putN
  rw [if_pos (List.any_eq_true.2 ⟨n, by simp, hn⟩), List.map_append, List.map_cons, if_pos hn]
  congr 1
  · conv => rhs; rw [← List.map_id A]
    exact List.map_congr_left fun x hx => by rw [hA x hx]; rfl
  · congr 1
    conv => rhs; rw [← List.map_id D]
    exact List.map_congr_left fun x hx => by rw [hD x hx]; rfl
theorem delN_mid {A D : List Ng} {n n' : Ng} (hn : keyB n'.i n'.a n = true) (hA : ∀ x ∈ A, keyB n'.i n'.a x = false) (hD : ∀ x ∈ D, keyB n'.i n'.a x = false) : delN (A ++ n :: D) n'.i n'.a = A ++ D := by
  unfold delN
  rw [List.filter_append, List.filter_cons_of_neg (by simp [hn])]
  rw [List.filter_eq_self.2 (fun x hx => by simp [hA x hx]), List.filter_eq_self.2 (fun x hx => by simp [hD x hx])]
theorem keys_apart {K : List Ng} (hnd : (K.map keyN).Nodup) (now : Int) {j : Nat} (hj : j < K.length) : (∀ x ∈ ((K.take j).map (agedN · now)).filter (fun n => !deadB n), keyB K[j].i K[j].a x = false) ∧ ∀ x ∈ K.drop (j + 1), keyB K[j].i K[j].a x = false := by
  have e : K = K.take j ++ K[j] :: K.drop (j + 1) := by rw [← List.drop_eq_getElem_cons hj, List.take_append_drop]
  have h0 : ((K.take j ++ K[j] :: K.drop (j + 1)).map keyN).Nodup := e ▸ hnd
  rw [List.map_append, List.map_cons, List.nodup_append] at h0
  obtain ⟨_, h2, h3⟩ := h0
  constructor
  · intro x hx
    obtain ⟨y, hy, rfl⟩ := List.mem_map.1 (List.mem_filter.1 hx).1
    cases hb : keyB K[j].i K[j].a (agedN y now)
    · rfl
    · exfalso
      have hk : keyN y = keyN K[j] := keyN_iff.2 hb
      exact h3 (keyN y) (List.mem_map_of_mem hy) (keyN K[j]) (by simp) hk
  · intro x hx
    cases hb : keyB K[j].i K[j].a x
    · rfl
    · exfalso
      rw [List.nodup_cons] at h2
      exact h2.1 (keyN_iff.2 hb ▸ List.mem_map_of_mem hx)
theorem left_put {K : List Ng} (hnd : (K.map keyN).Nodup) (now : Int) {j : Nat} (hj : j < K.length) (hd : deadB (agedN K[j] now) = false) : putN (leftL K now j) (agedN K[j] now) = leftL K now (j + 1) := by
  obtain ⟨h1, h2⟩ := keys_apart hnd now hj
  unfold leftL
  rw [List.drop_eq_getElem_cons hj, putN_mid (n := K[j]) (n' := agedN K[j] now) (keyB_iff.2 ⟨rfl, rfl⟩) h1 h2, List.take_succ_eq_append_getElem hj, List.map_append, List.filter_append]
  simp [hd]
theorem left_del {K : List Ng} (hnd : (K.map keyN).Nodup) (now : Int) {j : Nat} (hj : j < K.length) (hd : deadB (agedN K[j] now) = true) : delN (leftL K now j) (agedN K[j] now).i (agedN K[j] now).a = leftL K now (j + 1) := by
  obtain ⟨h1, h2⟩ := keys_apart hnd now hj
  unfold leftL
  rw [List.drop_eq_getElem_cons hj, delN_mid (n := K[j]) (n' := agedN K[j] now) (keyB_iff.2 ⟨rfl, rfl⟩) h1 h2, List.take_succ_eq_append_getElem hj, List.map_append, List.filter_append]
  simp [hd]
theorem gone_dead {K : List Ng} (now : Int) {j : Nat} (hj : j < K.length) (hd : deadB (agedN K[j] now) = true) : goneL K now (j + 1) = goneL K now j ++ [agedN K[j] now] := by
  unfold goneL
  rw [List.take_succ_eq_append_getElem hj, List.map_append, List.filter_append]
  simp [hd]
theorem gone_live {K : List Ng} (now : Int) {j : Nat} (hj : j < K.length) (hd : deadB (agedN K[j] now) = false) : goneL K now (j + 1) = goneL K now j := by
  unfold goneL
  rw [List.take_succ_eq_append_getElem hj, List.map_append, List.filter_append]
  simp [hd]
theorem left_all (K : List Ng) (now : Int) : leftL K now K.length = (K.map (agedN · now)).filter (fun n => !deadB n) := by
  unfold leftL
  rw [List.take_length, List.drop_length, List.append_nil]
theorem gone_all (K : List Ng) (now : Int) : goneL K now K.length = (K.map (agedN · now)).filter deadB := by
  unfold goneL
  rw [List.take_length]
theorem Tb.perm {w : World} {t mb : Nat} {most : Int} {F : List Fc} {L K : List Ng} (h : Tb w t mb most F L) (hp : K.Perm L) : Tb w t mb most F K :=
  ⟨h.ex, h.map.perm hp, h.fok, fun n hn => h.nok n (hp.mem_iff.1 hn), h.fl, by rw [hp.length_eq]; exact h.ll⟩
theorem Turn.perm {w w' : World} {t mb : Nat} {most : Int} {F : List Fc} {L K : List Ng} (h : Turn w w' t mb most F L) (hp : K.Perm L) : Turn w w' t mb most F K := ⟨h.tb.perm hp, h.os, h.tape, h.out, h.size, h.block⟩
/-- The rounds of Tick keep this. -/
structure TkI (w1 wr : World) (mb : Nat) (F : List Fc) (v : Value) (L G : List Ng) : Prop where
  gr : w1.grownBy wr (some mb)
  mp : Mp wr mb L
  ok : ∀ n ∈ L, n.ok ∧ 0 ≤ n.i ∧ n.i < F.length ∧ (n.hr = true → ∀ f, F[n.i.toNat]? = some f → f.r.on = true)
  ll : L.length ≤ 1000000
  ow : kN.Own wr w1.heap.size v G
theorem grown_below2 {w1 wr W : World} {o : Option Nat} (h : w1.grownBy wr o) (hb : Below wr.heap.size wr W) : w1.grownBy W o :=
  ⟨hb.os.trans h.os, hb.tape.trans h.tape, hb.output.trans h.output, Nat.le_trans h.size hb.size, fun i hi hne => (hb.block i (Nat.lt_of_lt_of_le hi h.size)).trans (h.block i hi hne)⟩
theorem TkI.below {w1 wr W : World} {mb : Nat} {F : List Fc} {v : Value} {L G : List Ng} (h : TkI w1 wr mb F v L G) (hb : Below wr.heap.size wr W) : TkI w1 W mb F v L G :=
  ⟨grown_below2 h.gr hb, h.mp.below hb h.mp.lt, h.ok, h.ll, own_below h.ow hb⟩
theorem TkI.app {w1 wr W : World} {mb : Nat} {F : List Fc} {v v' : Value} {L G G' : List Ng} (h : TkI w1 wr mb F v L G) (hg : wr.grownBy W v.ownBlock) (hm : mb < w1.heap.size) (ho : kN.Own W w1.heap.size v' G') : TkI w1 W mb F v' L G' :=
  ⟨⟨hg.os.trans h.gr.os, hg.tape.trans h.gr.tape, hg.output.trans h.gr.output, Nat.le_trans h.gr.size hg.size, fun i hi hne => (hg.block i (Nat.lt_of_lt_of_le hi h.gr.size) (fun e => own_ne_lt h.ow hi e.symm)).trans (h.gr.block i hi hne)⟩,
   h.mp.same (hg.block mb h.mp.lt (fun e => own_ne_lt h.ow hm e.symm)), h.ok, h.ll, ho⟩
theorem own_map {w w' : World} {mb B : Nat} {L : List Ng} {v : Value} {G : List Ng} (hm : Mp w mb L) (hg : w.grownBy w' (some mb)) (ho : kN.Own w B v G) : kN.Own w' B v G := by
  refine World.ownsRow.kept ho hg ?_
  rcases ho.2 with ⟨rfl, _⟩ | ⟨g, cap, cur, rfl, _, hh, _⟩
  · exact .inl rfl
  · refine .inr fun e => ?_
    obtain ⟨es, cl, h2⟩ := hm.obj
    have e' : g = mb := by simpa [Value.ownBlock] using e
    rw [e', h2] at hh
    cases hh
theorem TkI.map {w1 wr W : World} {mb : Nat} {F : List Fc} {v : Value} {L L' G : List Ng} (h : TkI w1 wr mb F v L G) (hg : wr.grownBy W (some mb)) (hm : Mp W mb L') (ok : ∀ n ∈ L', n.ok ∧ 0 ≤ n.i ∧ n.i < F.length ∧ (n.hr = true → ∀ f, F[n.i.toNat]? = some f → f.r.on = true)) (ll : L'.length ≤ 1000000) : TkI w1 W mb F v L' G :=
  ⟨grownBy_trans h.gr hg, hm, ok, ll, own_map h.mp hg h.ow⟩
theorem Turn.grown {w w' : World} {t mb : Nat} {most : Int} {F : List Fc} {L : List Ng} (h : Turn w w' t mb most F L) : w.grownBy w' (some mb) :=
  ⟨h.os, h.tape, h.out, h.size, fun i hi hne => h.block i hi (fun e => hne (by rw [e]))⟩
theorem TkI.turn {w1 wr : World} {t mb : Nat} {most : Int} {F : List Fc} {v : Value} {K L G : List Ng} (h : TkI w1 wr mb F v L G) (tb : Tb w1 t mb most F K) : Turn w1 wr t mb most F L :=
  ⟨tb.turn h.mp h.gr h.ok h.ll, h.gr.os, h.gr.tape, h.gr.output, h.gr.size, fun i hi hne => h.gr.block i hi (fun e => hne (by cases e; rfl))⟩
theorem meas {n j : Nat} (h : j < n) : n - ((j : Int) + 1).toNat < n - ((j : Int)).toNat := by omega
theorem left_mem {K : List Ng} {now : Int} {j : Nat} {x : Ng} (h : x ∈ leftL K now j) : ∃ y ∈ K, x = y ∨ x = agedN y now := by
  unfold leftL at h
  rcases List.mem_append.1 h with h | h
  · obtain ⟨y, hy, rfl⟩ := List.mem_map.1 (List.mem_filter.1 h).1
    exact ⟨y, List.mem_of_mem_take hy, .inr rfl⟩
  · exact ⟨x, List.mem_of_mem_drop h, .inl rfl⟩
theorem left_len (K : List Ng) (now : Int) (j : Nat) : (leftL K now j).length ≤ K.length := by
  unfold leftL
  rw [List.length_append, List.length_drop]
  have := List.length_filter_le (fun n => !deadB n) ((K.take j).map (agedN · now))
  rw [List.length_map, List.length_take] at this
  omega
set_option maxHeartbeats 16000000 in
theorem tick_any {w : World} {t mb : Nat} {most : Int} {F : List Fc} {L : List Ng} (h : Tb w t mb most F L) (now : Int) (t1 : now ≤ 1125899906842624) :
    Calls Try.prog 12 #[.pointer (some ⟨t, 0, none⟩), .int .i64 now] w fun e w' => ∃ r K, e = .returned r ∧ K.Perm L ∧ Asc K ∧ Turn w w' t mb most F ((K.map (agedN · now)).filter (fun n => !deadB n)) ∧ kN.Own w' w.heap.size r ((K.map (agedN · now)).filter deadB) := by
  have hLi := list_any h
  have hbase : ∀ W, Below w.heap.size w W → Tb W t mb most F L := fun W hW => h.below hW
  clear h
  go_enter Try.func12, Try.ntmps12
  go_wp2_with (go_at_call 13; refine hLi.mono ?_; rintro e w1 ⟨r, K, rfl, hp, hasc, hO, hB⟩; obtain ⟨va, vc, rfl, hat⟩ := Kd.own_at hO)
  have tb1 := (hbase w1 hB).perm hp
  have hmb := tb1.map.lt
  have hKl : K.length ≤ 1000000 := tb1.ll
  have HN : Hid ((K.map keyN).Nodup) := tb1.map.nd
  have i0 : TkI w1 w1 mb F (.slice none 0 0) (leftL K now 0) (goneL K now 0) := ⟨World.grownBy.refl _ _, by unfold leftL; simpa using tb1.map, by unfold leftL; simpa using tb1.nok, by unfold leftL; simpa using tb1.ll, by unfold goneL; exact World.ownsRow_nil _ _ _ _⟩
  clear hLi hbase hO
  go_loopw [5, 11] (fun v i wr => ∃ (j : Nat) (ga : Option Addr) (gl gc : Nat), v = .slice ga gl gc ∧ j ≤ K.length ∧ i = .int .i64 j ∧ TkI w1 wr mb F (.slice ga gl gc) (leftL K now j) (goneL K now j)) (fun _ i _ => K.length - (intOf i).toNat)
  case atStart => exact ⟨0, none, 0, 0, rfl, Nat.zero_le _, rfl, i0⟩
  case round =>
    clear i0
    obtain ⟨j, ga, gl, gc, rfl, hj, rfl, hI⟩ := hrel
    by_cases hlt : j < K.length
    · obtain ⟨g, rfl, hgB, hgl, ⟨gcs, gf, hgo⟩, hc⟩ := hat (by intro e; rw [e] at hlt; simp at hlt)
      have hgne : g ≠ mb := by
        obtain ⟨es, cl, h2⟩ := tb1.map.obj
        intro e
        rw [e, h2] at hgo
        cases hgo
      have hq0 := hc j K[j] (List.getElem?_eq_getElem hlt)
      have hq : wr.rangeAt g (j * 34) (ncs K[j]) := rangeAt_keep hq0 hI.gr hgne hgl
      have hnk := tb1.nok K[j] (List.getElem_mem hlt)
      have hwf := tb1.map.wf K[j] (List.getElem_mem hlt)
      have HS : Hid ((deadB (agedN K[j] now) = false → putN (leftL K now j) (agedN K[j] now) = leftL K now (j + 1) ∧ goneL K now (j + 1) = goneL K now j) ∧ (deadB (agedN K[j] now) = true → delN (leftL K now j) (agedN K[j] now).i (agedN K[j] now).a = leftL K now (j + 1) ∧ goneL K now (j + 1) = goneL K now j ++ [agedN K[j] now])) :=
        ⟨fun hd => ⟨left_put HN.out now hlt hd, gone_live now hlt hd⟩, fun hd => ⟨left_del HN.out now hlt hd, gone_dead now hlt hd⟩⟩
      have hOk : Hid (∀ x ∈ leftL K now (j + 1), x.ok ∧ 0 ≤ x.i ∧ x.i < F.length ∧ (x.hr = true → ∀ f, F[x.i.toNat]? = some f → f.r.on = true)) := fun x hx => by
        obtain ⟨y, hy, rfl | rfl⟩ := left_mem hx
        · exact tb1.nok _ hy
        · have := tb1.nok _ hy
          exact ⟨aged_ok now this.1 t1, this.2.1, this.2.2.1, this.2.2.2⟩
      have hLn : Hid ((leftL K now (j + 1)).length ≤ 1000000 ∧ (goneL K now j).length ≤ 10000000) := ⟨by have := left_len K now (j + 1); show _ ≤ _; omega, by unfold goneL; have := List.length_filter_le deadB ((K.take j).map (agedN · now)); rw [List.length_map, List.length_take] at this; omega⟩
      have hA := fun W => aged_any K[j] now W hnk.1 t1
      have hnk' : (agedN K[j] now).ok ∧ 0 ≤ (agedN K[j] now).i ∧ (agedN K[j] now).i < F.length ∧ ((agedN K[j] now).hr = true → ∀ f, F[(agedN K[j] now).i.toNat]? = some f → f.r.on = true) := ⟨aged_ok now hnk.1 t1, hnk.2.1, hnk.2.2.1, hnk.2.2.2⟩
      have hwf' : wfI (agedN K[j] now).i := hwf
      have hPut : deadB (agedN K[j] now) = false → ∀ W, Below wr.heap.size wr W → Calls Try.prog 25 #[.pointer (some ⟨t, 0, none⟩), nV (agedN K[j] now)] W fun e w' => e = .returned (.tuple #[]) ∧ TkI w1 w' mb F (.slice ga gl gc) (leftL K now (j + 1)) (goneL K now (j + 1)) := fun hd W hW => by
        obtain ⟨e1, e2⟩ := HS.out.1 hd
        have hI' := hI.below hW
        have tbW := (hI'.turn tb1).tb
        refine (put_any tbW (agedN K[j] now) hwf' hnk' (by rw [e1]; exact hLn.out.1)).mono ?_
        rintro e w' ⟨rfl, hT⟩
        rw [e1] at hT
        exact ⟨rfl, by rw [e2]; exact hI'.map hT.grown hT.tb.map hOk.out hLn.out.1⟩
      have hDel : deadB (agedN K[j] now) = true → ∀ (W : World) (v' : Value) (ty : TypeId), TkI w1 W mb F v' (leftL K now j) (goneL K now (j + 1)) → ∃ W', (Builtin.delete_ #[74, 85] ty #[.map (some mb), .agg (kcs (agedN K[j] now).i (agedN K[j] now).a).toArray]).run Try.prog W = .ok (.tuple #[]) W' ∧ TkI w1 W' mb F v' (leftL K now (j + 1)) (goneL K now (j + 1)) := fun hd W v' ty hI' => by
        obtain ⟨e1, e2⟩ := HS.out.2 hd
        obtain ⟨W', r1, r2, r3⟩ := hI'.mp.del (agedN K[j] now).a hwf' ty
        rw [e1] at r2
        exact ⟨W', r1, hI'.map r3 r2 hOk.out hLn.out.1⟩
      have hKO := keyOf_any (agedN K[j] now)
      have hGone : Hid (deadB (agedN K[j] now) = true → goneL K now (j + 1) = goneL K now j ++ [agedN K[j] now]) := fun hd => (HS.out.2 hd).2
      have hTab : Hid (∀ W v' G', TkI w1 W mb F v' (leftL K now j) G' → W.cell? ⟨t, 2, none⟩ = some (.map (some mb))) := fun W v' G' hI' => by
        obtain ⟨fa, fc, hr, _⟩ := (hI'.turn tb1).tb.ex
        exact hr.cell 2
      have hdB : Hid (deadB (agedN K[j] now) = (decide ((agedN K[j] now).m.b = 0) && decide ((agedN K[j] now).u.b = 0))) := rfl
      have hji : (j : Int) < (K.length : Int) := by omega
      have hw64 : wrap64 ((j : Int) + 1) = (j : Int) + 1 := by unfold wrap64; omega
      have HJ : Hid (j + 1 ≤ K.length) := hlt
      have HM : Hid (K.length - ((j : Int) + 1).toNat < K.length - ((j : Int)).toNat) := meas hlt
      have HW : Hid (∀ b, wr.heap.size ≤ b → (Value.slice ga gl gc).ownBlock ≠ some b) := fun b hb e => by
        rcases hI.ow.2 with ⟨e2, _⟩ | ⟨g', cap, cur, e2, _, hh, _⟩
        · rw [e2] at e; cases e
        · rw [e2] at e
          have e3 : g' = b := by simpa [Value.ownBlock] using e
          have := (Array.getElem?_eq_some_iff.1 hh).1
          omega
      have hsz : w1.heap.size ≤ wr.heap.size := hI.gr.size
      generalize agedN K[j] now = a at *
      generalize K[j] = n at *
      clear hq0 hc hgo hnk hwf hnk' hwf' HS hOk hat hlt hj hKl HN
      by_cases hm : a.m.b = 0 ∧ a.u.b = 0
      · have hm' : (a.m.b == 0) = true := by simpa using hm.1
        have hu' : (a.u.b == 0) = true := by simpa using hm.2
        have hdd : deadB a = true := by rw [hdB.out]; simp [hm]
        replace hDel := hDel hdd
        have hGo := hGone.out hdd
        clear hPut hGone hdB hm
        go_upto_region 8 with (first
          | (have kk := r6; at_builtin; refine kN.append (.tmp 28) (.tmp 30) rfl rfl w1.heap.size (.slice ga gl gc) (goneL K now j) rfl hO6 _ 1 a rfl r6 hLn.out.2 hz6 ?_; intro v7 W7 o7 g7)
          | (have kk := r5; (with_reducible refine bsG (T := 44) (U := 55) (n := 1) [(0, .tmp 29)] (ncs a) ?_ ?_ ?_ ?_); (focus rfl); (focus rfl); (focus exact (fun w => bsN1 a w)); intro W6 r6 b6; have q6 := r5.below b6 r5.lt; have hI6 := (hI.below b5).below b6; have hO6 := hI6.ow; have hz6 : w1.heap.size ≤ W6.heap.size := (Nat.le_trans (Nat.le_trans hsz b5.size) b6.size); clear r5)
          | (have kk := r5; refine ldN (.tmp 7) rfl rfl _ _ _ rfl r5.range ?_)
          | (have kk := r4; refine stN (.tmp 7) (.tmp 17) rfl rfl g2 a _ rfl rfl r4 ?_; intro W5 g5 r5; have b5 := grown_below g5 b4 hge2 b4.size; have c17 := (r5.cell 17).trans (nc17 _); have c20 := (r5.cell 20).trans (nc20 _); clear r4)
          | (have kk := r3; go_at_call 27; refine (hA _).mono ?_; rintro e w4 ⟨rfl, bA⟩; have r4 := r3.below bA r3.lt; have b4 := bt b3 bA; clear r3)
          | (have kk := r3; refine ldN (.tmp 7) rfl rfl _ _ _ rfl r3.range ?_)
          | (have kk := r2; refine stN (.tmp 7) (.tmp 14) rfl rfl g2 n _ rfl rfl r2 ?_; intro W3 g3 r3; have b3 := grown_below g3 hB2 hge2 hB2.size; clear r2)
          | (refine alG infoNz rfl rfl ?_; intro g2 W2 hge2 hgl2 hB2 r2)
          | (refine ldN (.tmp 13) rfl rfl _ _ n rfl hq ?_))
        obtain ⟨a7, c7, rfl, _⟩ := Kd.own_at o7
        rw [← hGo] at o7 ⊢
        have hI7 := hI6.app g7 hmb o7
        have q7 := q6.keepO g7 (HW.out g2 hge2)
        clear o7 g7 hO6 hI6 q6 r6 kk hI hq c17 c20 hA HW hGo hLn
        generalize (goneL K now (j + 1)).length = gl7 at *
        refine wp_region_noPanic ?_
        refine wp_region_N (S := fun W => TkI w1 W mb F (.slice a7 gl7 c7) (leftL K now j) (goneL K now (j + 1)) ∧ Row W g2 55 (ncs a)) 6 (by kernel_rfl) (⟨hI7.below (Below.refl _ _).drew, q7.drew⟩) (fun hHeld => ?_)
        refine takeN_lit (i := 0) (v := ?_) (F := #[false, false, false, false, true, true, false]) rfl (by kernel_rfl) (by kernel_rfl) (by kernel_rfl) (by kernel_rfl) (fun _ _ _ h => h) (Or.inl ⟨by rfl, ?_⟩) (by assumption) ?_
        rotate_left
        · (intro w hSw; (try dsimp only at hSw); go_simp <;> with_reducible rfl)
        try simp only [Act.put, List.setIfInBounds_toArray, List.set_cons_zero, List.set_cons_succ]
        refine takeN_lit (i := 1) (v := ?_) (F := #[true, false, false, false, true, true, false]) rfl (by kernel_rfl) (by kernel_rfl) (by kernel_rfl) (by kernel_rfl) (fun _ _ _ h => h) (Or.inl ⟨by rfl, ?_⟩) (by assumption) ?_
        rotate_left
        · (intro w hSw; (try dsimp only at hSw); go_simp <;> with_reducible rfl)
        try simp only [Act.put, List.setIfInBounds_toArray, List.set_cons_zero, List.set_cons_succ]
        refine takeN_lit (i := 2) (v := ?_) (F := #[true, true, false, false, true, true, false]) rfl (by kernel_rfl) (by kernel_rfl) (by kernel_rfl) (by kernel_rfl) (fun _ _ _ h => h) (Or.inl ⟨by rfl, ?_⟩) (by assumption) ?_
        rotate_left
        · (intro w hSw; (try dsimp only at hSw); go_simp <;> with_reducible rfl)
        try simp only [Act.put, List.setIfInBounds_toArray, List.set_cons_zero, List.set_cons_succ]
        refine takeN_lit (i := 3) (v := ?_) (F := #[true, true, true, false, true, true, false]) rfl (by kernel_rfl) (by kernel_rfl) (by kernel_rfl) (by kernel_rfl) (fun _ _ _ h => h) (Or.inl ⟨by rfl, ?_⟩) (by assumption) ?_
        rotate_left
        · (intro w hSw; (try dsimp only at hSw); have z := hTab.out _ _ _ hSw.1; go_simp <;> with_reducible rfl)
        try simp only [Act.put, List.setIfInBounds_toArray, List.set_cons_zero, List.set_cons_succ]
        refine takeN_lit (i := 4) (F := #[true, true, true, true, false, false, false]) rfl (by kernel_rfl) (by kernel_rfl) (by kernel_rfl) (by kernel_rfl) (fun _ _ _ h => h) (yN a (fun w h => h.2.range) (by rfl) rfl rfl) (by assumption) ?_
        try simp only [Act.put, List.setIfInBounds_toArray, List.set_cons_zero, List.set_cons_succ]
        refine wpAnyN_ready (rs := [5]) (by kernel_rfl) (by simp) ?_
        refine consN_lit rfl (fun K hK => ?_) ?_
        · go_simp
          refine (hKO _).mono ?_
          rintro e w8 ⟨rfl, b8⟩
          refine hK.out _ _ (Or.inr ?_) (fun hHeld => ?_)
          · exact ⟨hHeld.1.below b8, hHeld.2.below b8 hHeld.2.lt⟩
          replace hHeld := hHeld.resolve_left (by decide)
          clear hK K
          try simp only [Act.put, List.setIfInBounds_toArray, List.set_cons_zero, List.set_cons_succ]
          refine wpAnyN_ready (rs := [6]) (by kernel_rfl) (by simp) ?_
          refine consN_lit rfl (fun K hK => ?_) ?_
          · skip
            obtain ⟨W9, hrun, hI9⟩ := hDel _ _ _ hHeld.1
            refine sDel (.tmp 35) (.tmp 37) (by rfl) rfl rfl rfl hrun ?_
            refine hK.out _ _ (Or.inl rfl) (fun _ => ?_)
            clear hK K
            try simp only [Act.put, List.setIfInBounds_toArray, List.set_cons_zero, List.set_cons_succ]
            refine wpAnyN_done (by kernel_rfl) ?_ _
            refine NoPanic.normal ?_
            go_wp2_with fail
            go_roundw
            case rel => exact ⟨j + 1, a7, gl7, c7, rfl, HJ.out, by first | rfl | go_num, hI9⟩
            case measure => rw [hw64]; simp only [intOf]; exact HM.out
          exact AllReadyN.nil
        exact AllReadyN.nil
      · have hdd : deadB a = false := by rw [hdB.out]; simpa using hm
        replace hPut := hPut hdd
        clear hDel hGone hdB
        by_cases hm0 : a.m.b = 0
        · have hu : a.u.b ≠ 0 := fun e => hm ⟨hm0, e⟩
          have hm' : (a.m.b == 0) = true := by simpa using hm0
          have hu' : (a.u.b == 0) = false := by simpa using hu
          clear hm hm0 hu
          go_wp2_with (first
            | (have kk := r5; go_at_call 25; refine (hPut _ b5).mono ?_; rintro e w6 ⟨rfl, hI6⟩)
            | (have kk := r5; refine ldN (.tmp 7) rfl rfl _ _ _ rfl r5.range ?_)
            | (have kk := r4; refine stN (.tmp 7) (.tmp 17) rfl rfl g2 a _ rfl rfl r4 ?_; intro W5 g5 r5; have b5 := grown_below g5 b4 hge2 b4.size; have c17 := (r5.cell 17).trans (nc17 _); have c20 := (r5.cell 20).trans (nc20 _); clear r4)
            | (have kk := r3; go_at_call 27; refine (hA _).mono ?_; rintro e w4 ⟨rfl, bA⟩; have r4 := r3.below bA r3.lt; have b4 := bt b3 bA; clear r3)
            | (have kk := r3; refine ldN (.tmp 7) rfl rfl _ _ _ rfl r3.range ?_)
            | (have kk := r2; refine stN (.tmp 7) (.tmp 14) rfl rfl g2 n _ rfl rfl r2 ?_; intro W3 g3 r3; have b3 := grown_below g3 hB2 hge2 hB2.size; clear r2)
            | (refine alG infoNz rfl rfl ?_; intro g2 W2 hge2 hgl2 hB2 r2)
            | (refine ldN (.tmp 13) rfl rfl _ _ n rfl hq ?_))
          go_roundw
          case rel => exact ⟨j + 1, ga, gl, gc, rfl, HJ.out, by first | rfl | go_num, hI6⟩
          case measure => rw [hw64]; simp only [intOf]; exact HM.out
        · have hm' : (a.m.b == 0) = false := by simpa using hm0
          clear hm hm0
          go_wp2_with (first
            | (have kk := r5; go_at_call 25; refine (hPut _ b5).mono ?_; rintro e w6 ⟨rfl, hI6⟩)
            | (have kk := r5; refine ldN (.tmp 7) rfl rfl _ _ _ rfl r5.range ?_)
            | (have kk := r4; refine stN (.tmp 7) (.tmp 17) rfl rfl g2 a _ rfl rfl r4 ?_; intro W5 g5 r5; have b5 := grown_below g5 b4 hge2 b4.size; have c17 := (r5.cell 17).trans (nc17 _); have c20 := (r5.cell 20).trans (nc20 _); clear r4)
            | (have kk := r3; go_at_call 27; refine (hA _).mono ?_; rintro e w4 ⟨rfl, bA⟩; have r4 := r3.below bA r3.lt; have b4 := bt b3 bA; clear r3)
            | (have kk := r3; refine ldN (.tmp 7) rfl rfl _ _ _ rfl r3.range ?_)
            | (have kk := r2; refine stN (.tmp 7) (.tmp 14) rfl rfl g2 n _ rfl rfl r2 ?_; intro W3 g3 r3; have b3 := grown_below g3 hB2 hge2 hB2.size; clear r2)
            | (refine alG infoNz rfl rfl ?_; intro g2 W2 hge2 hgl2 hB2 r2)
            | (refine ldN (.tmp 13) rfl rfl _ _ n rfl hq ?_))
          go_roundw
          case rel => exact ⟨j + 1, ga, gl, gc, rfl, HJ.out, by first | rfl | go_num, hI6⟩
          case measure => rw [hw64]; simp only [intOf]; exact HM.out
    · have hjl : j = K.length := by omega
      subst hjl
      rw [left_all, gone_all] at hI
      have hT := (hI.turn tb1).pre hB
      have hO2 := Kd.own_up hI.ow hB.size
      clear hat hI
      go_wp2_with fail
      go_ret
      exact ⟨_, K, rfl, hp, hasc, hT, hO2⟩
end Go.Proofs.Ytacadlbhgelncaa
