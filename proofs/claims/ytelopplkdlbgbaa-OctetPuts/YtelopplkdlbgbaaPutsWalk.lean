/-
  The law OctetPuts returns true for every five lists that lie in memory, and turns nothing that was there.
-/
import Derived.Test.YtelopplkdlbgbaaRefPut
namespace Go.Proofs.Ytelopplkdlbgbaa
open Go.RowKit
set_option linter.unusedSimpArgs false

/-- A row of bytes: its value, its length, its bytes. -/
structure Row where
  v : Value
  n : Nat
  l : List UInt8
def Dis (u v : Value) : Prop := ∀ k, u.ownBlock = some k → v.ownBlock ≠ some k
theorem Dis.symm {u v : Value} (h : Dis u v) : Dis v u := fun k hk e => h k e hk
/-- Rows that the call owns, each apart from the others. -/
structure Many (w wr : World) (rs : List Row) : Prop where
  own : ∀ r ∈ rs, wr.ownsRow w.heap.size 5 1 r.v r.n (bcells r.l)
  dis : rs.Pairwise (fun r q => Dis r.v q.v)
  bel : Below w.heap.size w wr
theorem Many.nil (w : World) : Many w w [] := ⟨fun _ h => absurd h (List.not_mem_nil), List.Pairwise.nil, Below.refl _ _⟩
theorem Many.rot {w wr : World} {r : Row} {rs : List Row} (h : Many w wr (r :: rs)) : Many w wr (rs ++ [r]) := by
  refine ⟨fun q hq => h.own q (by simpa [or_comm] using hq), ?_, h.bel⟩
  have := List.pairwise_cons.1 h.dis
  rw [List.pairwise_append]
  exact ⟨this.2, by simp, fun a ha b hb => by simp at hb; subst hb; exact (this.1 a ha).symm⟩
theorem Many.step {w wr w' : World} {r : Row} {rs : List Row} (h : Many w wr (r :: rs)) (v : Value) (n : Nat) (l : List UInt8) (ho : w'.ownsRow w.heap.size 5 1 v n (bcells l)) (hw : Went wr w' r.v v) : Many w w' (⟨v, n, l⟩ :: rs) := by
  have hd := List.pairwise_cons.1 h.dis
  have hr := h.own r (by simp)
  refine ⟨fun q hq => ?_, List.pairwise_cons.2 ⟨fun q hq => ?_, hd.2⟩, hw.below hr h.bel h.bel.size⟩
  · rcases List.mem_cons.1 hq with rfl | hq
    · exact ho
    · refine (h.own q (by simp [hq])).kept hw.grown ?_
      cases e : q.v.ownBlock with
      | none => exact .inl rfl
      | some k => exact .inr (fun e2 => hd.1 q hq k e2.symm e)
  · intro k hk e
    rcases hw.at' with e2 | ⟨j, e2, hj⟩
    · exact hd.1 q hq k (by rw [← e2]; exact hk) e
    · have h1 := ((h.own q (by simp [hq])).lt k e).2
      change v.ownBlock = some k at hk
      rw [e2] at hk
      have := Option.some.inj hk
      omega
theorem own_base {w : World} {B B' : Nat} {v : Value} {n : Nat} {xs : List Value} (h : w.ownsRow B 5 1 v n xs) (hB : B' ≤ B) : w.ownsRow B' 5 1 v n xs := by
  refine ⟨h.1, ?_⟩
  rcases h.2 with h2 | ⟨g, cap, cur, h1, h3, h4⟩
  · exact .inl h2
  · exact .inr ⟨g, cap, cur, h1, Nat.le_trans hB h3, h4⟩
theorem Many.add {w wr w' : World} {rs : List Row} (h : Many w wr rs) (v : Value) (n : Nat) (l : List UInt8) (hb : Below wr.heap.size wr w') (ho : w'.ownsRow wr.heap.size 5 1 v n (bcells l)) : Many w w' (⟨v, n, l⟩ :: rs) := by
  refine ⟨fun q hq => ?_, List.pairwise_cons.2 ⟨fun q hq => ?_, h.dis⟩, h.bel.trans (hb.mono h.bel.size)⟩
  · rcases List.mem_cons.1 hq with rfl | hq
    · exact own_base ho h.bel.size
    · exact (h.own q hq).kept (grownBy_below none hb) (by cases q.v.ownBlock <;> simp)
  · intro k hk e
    have h1 := ((h.own q hq).lt k e).2
    have h2 := (ho.lt k hk).1
    omega

theorem bytes_take (l : List UInt8) (j : Nat) (hj : j < l.length) : l.take (j + 1) = l.take j ++ [l[j]] := List.take_succ_eq_append_getElem hj

structure PutsIn (w : World) (a0 : Option Addr) (n0 c0 : Nat) (l0 : List UInt8) (a1 : Option Addr) (n1 c1 : Nat) (l1 : List UInt8) (a2 : Option Addr) (n2 c2 : Nat) (l2 : List UInt16) (a3 : Option Addr) (n3 c3 : Nat) (l3 : List UInt32) (a4 : Option Addr) (n4 c4 : Nat) (ps : List Part) : Prop where
  s0 : Src w a0 n0 c0 (bcells l0)
  s1 : Src w a1 n1 c1 (bcells l1)
  s2 : Src w a2 n2 c2 (hcells l2)
  s3 : Src w a3 n3 c3 (wcells l3)
  s4 : Src w a4 n4 c4 (pcells ps)
  pp : Parts w ps
  r0 : n0 ≤ 140737488351232
  rp : ∀ q ∈ ps, q.n ≤ 140737488351232
  r4 : n4 ≤ 140737488351232

theorem PutsIn.below {w w' : World} {a0 : Option Addr} {n0 c0 : Nat} {l0 : List UInt8} {a1 : Option Addr} {n1 c1 : Nat} {l1 : List UInt8} {a2 : Option Addr} {n2 c2 : Nat} {l2 : List UInt16} {a3 : Option Addr} {n3 c3 : Nat} {l3 : List UInt32} {a4 : Option Addr} {n4 c4 : Nat} {ps : List Part} (h : PutsIn w a0 n0 c0 l0 a1 n1 c1 l1 a2 n2 c2 l2 a3 n3 c3 l3 a4 n4 c4 ps) (hb : Below w.heap.size w w') : PutsIn w' a0 n0 c0 l0 a1 n1 c1 l1 a2 n2 c2 l2 a3 n3 c3 l3 a4 n4 c4 ps :=
  ⟨h.s0.below hb h.s0.lt, h.s1.below hb h.s1.lt, h.s2.below hb h.s2.lt, h.s3.below hb h.s3.lt, h.s4.below hb h.s4.lt, h.pp.below hb, h.r0, h.rp, h.r4⟩

/-- append([]byte{}, b...) at a step of a region that draws its order. -/
theorem step_new {ops : Array Oper} {o : Oper} {a : Act} {w : World} {K : Act → World → Prop} {Q : Exit → Act → World → Prop} {E : Prop} (hw : Region.wanted o (yielded ops a.tmps) = true) (s x : Operand)
    (ho : o.op = .call { callee := .builtin .append, args := #[s, x], argTypes := #[22, 22] }) (h : Nat) (hs : a.eval s = .slice (some ⟨h, 0, none⟩) 0 0) (hh : w.heap[h]? = some (.cells #[] 5 (0, 0)))
    (ad : Option Addr) (m c : Nat) (l : List UInt8) (hx : a.eval x = .slice ad m c) (hsrc : Src w ad m c (bcells l)) (hb : m ≤ 140737488355328)
    (hK : ∀ a' c' w', Src w' a' m c' (bcells l) → w.grownBy w' (some h) → (∀ ad, a' = some ad → h ≤ ad.block) → K (a.put o.dst (.slice a' m c')) w') :
    if Region.wanted o (yielded ops a.tmps) = true then Oper.wp Try.prog o a w K Q else E := by
  rw [if_pos hw]
  obtain ⟨i0, hi, hz0, hz1, hz2⟩ := info_parts info5
  have hown : w.ownsRow h 5 1 (.slice (some ⟨h, 0, none⟩) 0 0) 0 [] := ⟨by simp, .inr ⟨h, 0, #[], rfl, Nat.le_refl _, hh, Nat.le_refl _, by unfold maxLen; omega, by simp, by simp⟩⟩
  have fin : ∀ v' w', w'.ownsRow h 5 1 v' m (bcells l) → w.grownBy w' (some h) → K (a.put o.dst v') w' := by
    intro v' w' h1 h2
    obtain ⟨a', c', hv, hs', hlt⟩ := Src.ofOwn h1
    subst hv
    exact hK a' c' w' hs' h2 (fun ad had => (hlt ad had).1)
  cases ad with
  | some ad =>
    refine wp_append_own w s x 22 ho h 5 i0 (.int .u8 0) 1 1 Try.underlying22 hi hz0 hz1 hz2 rfl (by decide) _ 0 [] hs hown ad m c (bcells l) hx (by simp [hsrc.len]) (hsrc.cell ad rfl) (bcells_one l) (by unfold maxLen; omega) (by omega) (Nat.le_of_lt (lt_of_block hh)) ?_
    intro v' w' h1 h2 _
    exact fin v' w' (by simpa using h1) h2
  | none =>
    obtain ⟨rfl, rfl⟩ := hsrc.bare rfl
    have hn : bcells l = [] := List.eq_nil_of_length_eq_zero hsrc.len
    have hrun := run_append_owned_none (P := Try.prog) (w := w) h 22 o.type 5 i0 1 Try.underlying22 hi _ 0 [] hown
    unfold Oper.wp
    simp [execOp, ho, resolve, invoke, builtin, hs, hx, hrun, Result.andThen]
    exact fin _ w (by rw [hn]; exact hown) (World.grownBy.refl _ _)

theorem flat_part {w : World} {ps : List Part} (hp : Parts w ps) (hr : ∀ q ∈ ps, q.n ≤ 140737488351232) (j : Nat) (hj : j ≤ 61) : (flat (ps.take j)).length ≤ 8584986789425152 := by
  have key : ∀ j, (flat (ps.take j)).length ≤ j * 140737488351232 := by
    intro j
    induction j with
    | zero => simp [flat]
    | succ j ih =>
      by_cases h : j < ps.length
      · rw [flat_take ps j h, List.length_append]
        have h1 := (hp _ (List.getElem_mem h)).blen
        have h2 := hr _ (List.getElem_mem h)
        omega
      · rw [List.take_of_length_le (by omega)] at ih
        rw [List.take_of_length_le (by omega)]
        exact Nat.le_trans ih (Nat.mul_le_mul_right _ (Nat.le_succ j))
  refine Nat.le_trans (key j) ?_
  exact Nat.mul_le_mul_right 140737488351232 hj

set_option maxRecDepth 100000 in
set_option maxHeartbeats 4000000 in
theorem puts_walk {w : World} {a0 : Option Addr} {n0 c0 : Nat} {l0 : List UInt8} {a1 : Option Addr} {n1 c1 : Nat} {l1 : List UInt8} {a2 : Option Addr} {n2 c2 : Nat} {l2 : List UInt16} {a3 : Option Addr} {n3 c3 : Nat} {l3 : List UInt32} {a4 : Option Addr} {n4 c4 : Nat} {ps : List Part} (hin : PutsIn w a0 n0 c0 l0 a1 n1 c1 l1 a2 n2 c2 l2 a3 n3 c3 l3 a4 n4 c4 ps) :
    Calls Try.prog 3 #[.slice a0 n0 c0, .slice a1 n1 c1, .slice a2 n2 c2, .slice a3 n3 c3, .slice a4 n4 c4] w fun e w' => e = .returned (.bool true) ∧ Below w.heap.size w w' := by
  have hr0 := hin.r0
  have hr4 := hin.r4
  have HL : Hid (n0 = l0.length ∧ n1 = l1.length ∧ n2 = l2.length ∧ n3 = l3.length ∧ n4 = ps.length) := ⟨hin.s0.blen, hin.s1.blen, hin.s2.hlen, hin.s3.wlen, hin.s4.plen⟩
  go_enter Try.func3, Try.ntmps3
  go_wp2
  go_loopw [11, 12] (fun s i wr => ∃ (j V : Nat), j ≤ n4 ∧ j ≤ 61 ∧ i = .int .i64 j ∧ s = .int .i64 V ∧ Hid (V = n0 + (flat (ps.take j)).length) ∧ w = wr) (fun _ i _ => n4 - (intOf i).toNat)
  case atStart => exact ⟨0, n0, Nat.zero_le _, by omega, rfl, rfl, by show _ = _; simp [flat], rfl⟩
  case round =>
    obtain ⟨j, V, hj, hj61, rfl, rfl, hV, rfl⟩ := hrel
    have hVb : V ≤ 8725724277776384 := by have h1 := hV.out; have h2 := flat_part hin.pp hin.rp j hj61; omega
    by_cases hlt : j < n4 ∧ j ≤ 60
    · obtain ⟨hlt, hle⟩ := hlt
      cases a4 with
      | none => exact absurd (hin.s4.bare rfl).1 (by omega)
      | some ad =>
        have hjk : j < ps.length := by have := HL.out; omega
        have hc := hin.s4.partAt j hjk
        have hq := hin.rp _ (List.getElem_mem hjk)
        have hbl := (hin.pp _ (List.getElem_mem hjk)).blen
        have HS : Hid (V + ps[j].n = n0 + (flat (ps.take (j + 1))).length) := by show _ = _; rw [flat_take ps j hjk, List.length_append, hV.out, hbl]; omega
        clear hbl
        generalize ps[j].a = qa at *
        generalize ps[j].n = qn at *
        generalize ps[j].c = qc at *
        go_wp2
        go_roundw
        case rel => exact ⟨j + 1, V + qn, by omega, by omega, by go_num, by go_num, HS, trivial⟩
        case measure => simp [intOf]; omega
    · by_cases hlong : 20000 < V ∨ 60 < n1 ∨ 60 < n2 ∨ 60 < n3 ∨ 60 < n4
      · by_cases hjn : j < n4
        · have hj60 : ¬ j ≤ 60 := by omega
          clear hlt
          by_cases d0 : 20000 < V
          · clear hlong
            go_wp2_with (go_at_call 9; refine (live_any _).mono ?_; rintro e w' ⟨rfl, hb⟩)
            go_ret
            exact ⟨rfl, hb⟩
          · by_cases d1 : 60 < n1
            · clear hlong
              go_wp2_with (go_at_call 9; refine (live_any _).mono ?_; rintro e w' ⟨rfl, hb⟩)
              go_ret
              exact ⟨rfl, hb⟩
            · by_cases d2 : 60 < n2
              · clear hlong
                go_wp2_with (go_at_call 9; refine (live_any _).mono ?_; rintro e w' ⟨rfl, hb⟩)
                go_ret
                exact ⟨rfl, hb⟩
              · by_cases d3 : 60 < n3
                · clear hlong
                  go_wp2_with (go_at_call 9; refine (live_any _).mono ?_; rintro e w' ⟨rfl, hb⟩)
                  go_ret
                  exact ⟨rfl, hb⟩
                · have d4 : 60 < n4 := by omega
                  clear hlong
                  go_wp2_with (go_at_call 9; refine (live_any _).mono ?_; rintro e w' ⟨rfl, hb⟩)
                  go_ret
                  exact ⟨rfl, hb⟩
        · clear hlt
          by_cases d0 : 20000 < V
          · clear hlong
            go_wp2_with (go_at_call 9; refine (live_any _).mono ?_; rintro e w' ⟨rfl, hb⟩)
            go_ret
            exact ⟨rfl, hb⟩
          · by_cases d1 : 60 < n1
            · clear hlong
              go_wp2_with (go_at_call 9; refine (live_any _).mono ?_; rintro e w' ⟨rfl, hb⟩)
              go_ret
              exact ⟨rfl, hb⟩
            · by_cases d2 : 60 < n2
              · clear hlong
                go_wp2_with (go_at_call 9; refine (live_any _).mono ?_; rintro e w' ⟨rfl, hb⟩)
                go_ret
                exact ⟨rfl, hb⟩
              · by_cases d3 : 60 < n3
                · clear hlong
                  go_wp2_with (go_at_call 9; refine (live_any _).mono ?_; rintro e w' ⟨rfl, hb⟩)
                  go_ret
                  exact ⟨rfl, hb⟩
                · have d4 : 60 < n4 := by omega
                  clear hlong
                  go_wp2_with (go_at_call 9; refine (live_any _).mono ?_; rintro e w' ⟨rfl, hb⟩)
                  go_ret
                  exact ⟨rfl, hb⟩
      · have hj4 : j = n4 := by omega
        have e0 : decide (20000 < (V : Int)) = false := by simp; omega
        have e1 : decide (60 < (n1 : Int)) = false := by simp; omega
        have e2 : decide (60 < (n2 : Int)) = false := by simp; omega
        have e3 : decide (60 < (n3 : Int)) = false := by simp; omega
        have e4 : decide (60 < (n4 : Int)) = false := by simp; omega
        have hflat : Hid (n0 + (flat ps).length ≤ 20000 ∧ n1 ≤ 60 ∧ n2 ≤ 60 ∧ n3 ≤ 60 ∧ n4 ≤ 60) := by
          have h1 := hV.out
          rw [List.take_of_length_le (by have := HL.out; omega)] at h1
          show _ ∧ _
          omega
        obtain rfl : n4 = j := hj4.symm
        have hn0 : n0 ≤ 20000 := by have := hflat.out; omega
        have q1 : n1 ≤ 60 := hflat.out.2.1
        have q2 : n2 ≤ 60 := hflat.out.2.2.1
        have q3 : n3 ≤ 60 := hflat.out.2.2.2.1
        have q4 : n4 ≤ 60 := hflat.out.2.2.2.2
        clear hlong hlt hVb hj hj61 hr0 hr4
        have m0 := Many.nil w
        go_wp2_with (first
          | (at_builtin; refine append_new rfl (.tmp 72) (.tmp 73) rfl rfl a0 n0 c0 l0 rfl (hin.s0.below m3.bel hin.s0.lt) (by omega) ?_; intro az cz w4 _ hb4 _ ho4; have m4 := m3.add _ _ _ hb4 ho4; clear hb4 ho4 m3)
          | (at_builtin; refine append_new rfl (.tmp 69) (.tmp 70) rfl rfl a0 n0 c0 l0 rfl (hin.s0.below m2.bel hin.s0.lt) (by omega) ?_; intro ay cy w3 _ hb3 _ ho3; have m3 := m2.add _ _ _ hb3 ho3; clear hb3 ho3 m2)
          | (at_builtin; refine append_new rfl (.tmp 66) (.tmp 67) rfl rfl a0 n0 c0 l0 rfl (hin.s0.below m1.bel hin.s0.lt) (by omega) ?_; intro ax cx w2 _ hb2 _ ho2; have m2 := m1.add _ _ _ hb2 ho2; clear hb2 ho2 m1)
          | (at_builtin; refine append_new rfl (.tmp 63) (.tmp 64) rfl rfl a0 n0 c0 l0 rfl hin.s0 (by omega) ?_; intro aw cw w1 _ hb1 _ ho1; have m1 := m0.add _ _ _ hb1 ho1; clear hb1 ho1 m0))
        have mw : Many w w4 (⟨.slice aw n0 cw, n0, l0⟩ :: [⟨.slice az n0 cz, n0, l0⟩, ⟨.slice ay n0 cy, n0, l0⟩, ⟨.slice ax n0 cx, n0, l0⟩]) := m4.rot.rot.rot
        clear m4
        go_loopw [13, 17] (fun s i wr => ∃ (j wN : Nat) (a : Option Addr) (c : Nat), j ≤ n1 ∧ i = .int .i64 j ∧ s = .slice a wN c ∧ Hid (wN = n0 + 1 * j) ∧ Many w wr (⟨.slice a wN c, wN, l0 ++ l1.take j⟩ :: [⟨.slice az n0 cz, n0, l0⟩, ⟨.slice ay n0 cy, n0, l0⟩, ⟨.slice ax n0 cx, n0, l0⟩])) (fun _ i _ => n1 - (intOf i).toNat)
        case atStart => exact ⟨0, n0, _, _, Nat.zero_le _, rfl, rfl, by show _ = _; omega, by simpa using mw⟩
        case round =>
          clear mw
          obtain ⟨j, wN, wa, wc, hj, rfl, rfl, hwN, mr⟩ := hrel
          have hNb : wN ≤ 30000 := by have h1 := hwN.out; have h2 := hflat.out; omega
          by_cases hlt : j < n1
          · cases a1 with
            | none => exact absurd (hin.s1.bare rfl).1 (by omega)
            | some ad =>
              have hjl : j < l1.length := by have := HL.out; omega
              have hc := (hin.s1.below mr.bel hin.s1.lt).byteAt j hjl
              have hz := l1[j].toNat_lt
              have HT : Hid (l0 ++ l1.take (j + 1) = (l0 ++ l1.take j) ++ beN l1[j].toNat 1) := by show _ = _; rw [beN1, bytes_take l1 j hjl, List.append_assoc]
              generalize l1[j].toNat = z at *
              go_wp2_with (go_at_call 10; refine (refput_any z 1 _ wN _ w.heap.size wr (mr.own _ List.mem_cons_self) mr.bel.size (by omega) (by omega) (by omega)).mono ?_; rintro e w5 ⟨a5, c5, rfl, ho5, hw5⟩; have m5 := mr.step _ _ _ ho5 hw5; clear mr ho5 hw5)
              go_roundw
              case rel => exact ⟨j + 1, wN + 1, a5, c5, by omega, by go_num, rfl, by have := hwN.out; show _ = _; omega, by rw [HT.out]; exact m5⟩
              case measure => simp [intOf]; omega
          · obtain rfl : n1 = j := by omega
            rw [List.take_of_length_le (by have := HL.out; omega)] at mr
            have mx : Many w wr (⟨.slice ax n0 cx, n0, l0⟩ :: [⟨.slice wa wN wc, wN, l0 ++ l1⟩, ⟨.slice az n0 cz, n0, l0⟩, ⟨.slice ay n0 cy, n0, l0⟩]) := mr.rot.rot.rot
            clear mr hNb
            go_wp2
            go_loopw [14, 18] (fun s i wr => ∃ (j xN : Nat) (a : Option Addr) (c : Nat), j ≤ n2 ∧ i = .int .i64 j ∧ s = .slice a xN c ∧ Hid (xN = n0 + 2 * j) ∧ Many w wr (⟨.slice a xN c, xN, l0 ++ (l2.take j).flatMap be16⟩ :: [⟨.slice wa wN wc, wN, l0 ++ l1⟩, ⟨.slice az n0 cz, n0, l0⟩, ⟨.slice ay n0 cy, n0, l0⟩])) (fun _ i _ => n2 - (intOf i).toNat)
            case atStart => exact ⟨0, n0, _, _, Nat.zero_le _, rfl, rfl, by show _ = _; omega, by simpa using mx⟩
            case round =>
              clear mx
              obtain ⟨j, xN, xa, xc, hj, rfl, rfl, hxN, mr⟩ := hrel
              have hNb : xN ≤ 30000 := by have h1 := hxN.out; have h2 := hflat.out; omega
              by_cases hlt : j < n2
              · cases a2 with
                | none => exact absurd (hin.s2.bare rfl).1 (by omega)
                | some ad =>
                  have hjl : j < l2.length := by have := HL.out; omega
                  have hc := (hin.s2.below mr.bel hin.s2.lt).halfAt j hjl
                  have hz := l2[j].toNat_lt
                  have HT : Hid (l0 ++ (l2.take (j + 1)).flatMap be16 = (l0 ++ (l2.take j).flatMap be16) ++ beN l2[j].toNat 2) := by show _ = _; rw [beN2, be16_take l2 j hjl, List.append_assoc]
                  generalize l2[j].toNat = z at *
                  go_wp2_with (go_at_call 10; refine (refput_any z 2 _ xN _ w.heap.size wr (mr.own _ List.mem_cons_self) mr.bel.size (by omega) (by omega) (by omega)).mono ?_; rintro e w5 ⟨a5, c5, rfl, ho5, hw5⟩; have m5 := mr.step _ _ _ ho5 hw5; clear mr ho5 hw5)
                  go_roundw
                  case rel => exact ⟨j + 1, xN + 2, a5, c5, by omega, by go_num, rfl, by have := hxN.out; show _ = _; omega, by rw [HT.out]; exact m5⟩
                  case measure => simp [intOf]; omega
              · obtain rfl : n2 = j := by omega
                rw [List.take_of_length_le (by have := HL.out; omega)] at mr
                have my : Many w wr (⟨.slice ay n0 cy, n0, l0⟩ :: [⟨.slice xa xN xc, xN, l0 ++ l2.flatMap be16⟩, ⟨.slice wa wN wc, wN, l0 ++ l1⟩, ⟨.slice az n0 cz, n0, l0⟩]) := mr.rot.rot.rot
                clear mr hNb
                go_wp2
                go_loopw [15, 19] (fun s i wr => ∃ (j yN : Nat) (a : Option Addr) (c : Nat), j ≤ n3 ∧ i = .int .i64 j ∧ s = .slice a yN c ∧ Hid (yN = n0 + 4 * j) ∧ Many w wr (⟨.slice a yN c, yN, l0 ++ (l3.take j).flatMap be32⟩ :: [⟨.slice xa xN xc, xN, l0 ++ l2.flatMap be16⟩, ⟨.slice wa wN wc, wN, l0 ++ l1⟩, ⟨.slice az n0 cz, n0, l0⟩])) (fun _ i _ => n3 - (intOf i).toNat)
                case atStart => exact ⟨0, n0, _, _, Nat.zero_le _, rfl, rfl, by show _ = _; omega, by simpa using my⟩
                case round =>
                  clear my
                  obtain ⟨j, yN, ya, yc, hj, rfl, rfl, hyN, mr⟩ := hrel
                  have hNb : yN ≤ 30000 := by have h1 := hyN.out; have h2 := hflat.out; omega
                  by_cases hlt : j < n3
                  · cases a3 with
                    | none => exact absurd (hin.s3.bare rfl).1 (by omega)
                    | some ad =>
                      have hjl : j < l3.length := by have := HL.out; omega
                      have hc := (hin.s3.below mr.bel hin.s3.lt).wordAt j hjl
                      have hz := l3[j].toNat_lt
                      have HT : Hid (l0 ++ (l3.take (j + 1)).flatMap be32 = (l0 ++ (l3.take j).flatMap be32) ++ beN l3[j].toNat 4) := by show _ = _; rw [beN4, be32_take l3 j hjl, List.append_assoc]
                      generalize l3[j].toNat = z at *
                      go_wp2_with (go_at_call 10; refine (refput_any z 4 _ yN _ w.heap.size wr (mr.own _ List.mem_cons_self) mr.bel.size (by omega) (by omega) (by omega)).mono ?_; rintro e w5 ⟨a5, c5, rfl, ho5, hw5⟩; have m5 := mr.step _ _ _ ho5 hw5; clear mr ho5 hw5)
                      go_roundw
                      case rel => exact ⟨j + 1, yN + 4, a5, c5, by omega, by go_num, rfl, by have := hyN.out; show _ = _; omega, by rw [HT.out]; exact m5⟩
                      case measure => simp [intOf]; omega
                  · obtain rfl : n3 = j := by omega
                    rw [List.take_of_length_le (by have := HL.out; omega)] at mr
                    have mz : Many w wr (⟨.slice az n0 cz, n0, l0⟩ :: [⟨.slice ya yN yc, yN, l0 ++ l3.flatMap be32⟩, ⟨.slice xa xN xc, xN, l0 ++ l2.flatMap be16⟩, ⟨.slice wa wN wc, wN, l0 ++ l1⟩]) := mr.rot.rot.rot
                    clear mr hNb
 
                    go_wp2
                    go_loopw [16, 20] (fun s i wr => ∃ (j zN : Nat) (a : Option Addr) (c : Nat), j ≤ n4 ∧ i = .int .i64 j ∧ s = .slice a zN c ∧ Hid (zN = n0 + (flat (ps.take j)).length) ∧ Many w wr (⟨.slice a zN c, zN, l0 ++ flat (ps.take j)⟩ :: [⟨.slice ya yN yc, yN, l0 ++ l3.flatMap be32⟩, ⟨.slice xa xN xc, xN, l0 ++ l2.flatMap be16⟩, ⟨.slice wa wN wc, wN, l0 ++ l1⟩])) (fun _ i _ => n4 - (intOf i).toNat)
                    case atStart => exact ⟨0, n0, _, _, Nat.zero_le _, rfl, rfl, by show _ = _; simp [flat], by simpa [flat] using mz⟩
                    case round =>
                      clear mz
                      obtain ⟨j, zN, za, zc, hj, rfl, rfl, hzN, mr⟩ := hrel
                      by_cases hlt : j < n4
                      · cases a4 with
                        | none => exact absurd (hin.s4.bare rfl).1 (by omega)
                        | some ad =>
                          have hjl : j < ps.length := by have := HL.out; omega
                          have hc := (hin.s4.below mr.bel hin.s4.lt).partAt j hjl
                          have hq := (hin.pp.below mr.bel) ps[j] (List.getElem_mem hjl)
                          have hft := flat_take ps j hjl
                          have hle := flat_le ps (j + 1)
                          have hq2 := hq.blen
                          rw [hft, List.length_append] at hle
                          have HT : Hid (l0 ++ flat (ps.take (j + 1)) = (l0 ++ flat (ps.take j)) ++ ps[j].l ∧ zN + ps[j].n = n0 + (flat (ps.take (j + 1))).length) := ⟨by rw [hft, List.append_assoc], by rw [hft, List.length_append, hzN.out, hq2]; omega⟩
                          have hb2 : zN + ps[j].n ≤ 140737488355328 := by have h1 := hflat.out; have h2 := hzN.out; omega
                          generalize ps[j].a = qa at *
                          generalize ps[j].n = qn at *
                          generalize ps[j].c = qc at *
                          generalize ps[j].l = ql at *
                          clear hft hle hq2
                          go_wp2_with (at_builtin; refine append_went rfl (.tmp 119) (.tmp 123) rfl w.heap.size _ zN _ rfl (mr.own _ List.mem_cons_self) qa qn qc (bcells ql) rfl hq (bcells_one ql) hb2 mr.bel.size ?_; intro v5 w5 ho5 hw5; obtain ⟨a5, c5, hv5⟩ := own_shape ho5; rw [hv5] at ho5 hw5 ⊢; rw [← bcells_append] at ho5; have m5 := mr.step _ _ _ ho5 hw5; clear mr ho5 hw5)
                          go_roundw
                          case rel => exact ⟨j + 1, zN + qn, a5, c5, by omega, by go_num, rfl, HT.out.2, by rw [HT.out.1]; exact m5⟩
                          case measure => simp [intOf]; omega
                      · obtain rfl : n4 = j := by omega
                        rw [List.take_of_length_le (by have := HL.out; omega)] at mr
                        go_wp2
                        have HS : Hid (∀ w', Below wr.heap.size wr w' → PutsIn w' a0 n0 c0 l0 a1 n1 c1 l1 a2 n2 c2 l2 a3 n3 c3 l3 a4 n4 c4 ps) := fun w' h => hin.below (mr.bel.trans (h.mono mr.bel.size))
                        obtain ⟨_, _, hvz, sz, _⟩ := Src.ofOwn (mr.own _ (List.mem_cons_self))
                        cases hvz
                        obtain ⟨_, _, hvy, sy, _⟩ := Src.ofOwn (mr.own _ (List.mem_cons_of_mem _ List.mem_cons_self))
                        cases hvy
                        obtain ⟨_, _, hvx, sx, _⟩ := Src.ofOwn (mr.own _ (List.mem_cons_of_mem _ (List.mem_cons_of_mem _ List.mem_cons_self)))
                        cases hvx
                        obtain ⟨_, _, hvw, sw, _⟩ := Src.ofOwn (mr.own _ (List.mem_cons_of_mem _ (List.mem_cons_of_mem _ (List.mem_cons_of_mem _ List.mem_cons_self))))
                        cases hvw
                        have HK : Hid (∀ w', Below wr.heap.size wr w' → Below wr.heap.size wr w' ∧ (convert 22 9 (.slice wa wN wc)).run Try.prog w' = .ok (.string (bs (l0 ++ l1))) w' ∧ (convert 22 9 (.slice xa xN xc)).run Try.prog w' = .ok (.string (bs (l0 ++ l2.flatMap be16))) w' ∧ (convert 22 9 (.slice ya yN yc)).run Try.prog w' = .ok (.string (bs (l0 ++ l3.flatMap be32))) w' ∧ (convert 22 9 (.slice za zN zc)).run Try.prog w' = .ok (.string (bs (l0 ++ flat ps))) w') := fun w' h => ⟨h, (sw.below h sw.lt).bs, (sx.below h sx.lt).bs, (sy.below h sy.lt).bs, (sz.below h sz.lt).bs⟩
                        clear sw sx sy sz
                        refine wp_region_noPanic ?_
                        refine wp_region_held_drew (S := fun w' => Below wr.heap.size wr w' ∧ (convert 22 9 (.slice wa wN wc)).run Try.prog w' = .ok (.string (bs (l0 ++ l1))) w' ∧ (convert 22 9 (.slice xa xN xc)).run Try.prog w' = .ok (.string (bs (l0 ++ l2.flatMap be16))) w' ∧ (convert 22 9 (.slice ya yN yc)).run Try.prog w' = .ok (.string (bs (l0 ++ l3.flatMap be32))) w' ∧ (convert 22 9 (.slice za zN zc)).run Try.prog w' = .ok (.string (bs (l0 ++ flat ps))) w') (by kernel_rfl) (HK.out _ (Below.refl _ _).drew) (fun hHeld => ?_)
                        refine take_lit (i := 1) (v := ?_) rfl (by kernel_rfl) (by kernel_rfl) (by kernel_rfl) (fun _ _ _ h => h) (Or.inl ⟨by rfl, ?_⟩) (by assumption) ?_
                        rotate_left
                        · (intro w hSw; (try dsimp only at hSw); go_simp <;> with_reducible rfl)
                        try simp only [Act.put, List.setIfInBounds_toArray, List.set_cons_zero, List.set_cons_succ]
                        refine take_lit (i := 3) (v := ?_) rfl (by kernel_rfl) (by kernel_rfl) (by kernel_rfl) (fun _ _ _ h => h) (Or.inl ⟨by rfl, ?_⟩) (by assumption) ?_
                        rotate_left
                        · (intro w hSw; (try dsimp only at hSw); go_simp <;> with_reducible rfl)
                        try simp only [Act.put, List.setIfInBounds_toArray, List.set_cons_zero, List.set_cons_succ]
                        refine take_lit (i := 6) (v := ?_) rfl (by kernel_rfl) (by kernel_rfl) (by kernel_rfl) (fun _ _ _ h => h) (Or.inl ⟨by rfl, ?_⟩) (by assumption) ?_
                        rotate_left
                        · (intro w hSw; (try dsimp only at hSw); go_simp <;> with_reducible rfl)
                        try simp only [Act.put, List.setIfInBounds_toArray, List.set_cons_zero, List.set_cons_succ]
                        refine take_lit (i := 7) (v := ?_) rfl (by kernel_rfl) (by kernel_rfl) (by kernel_rfl) (fun _ _ _ h => h) (Or.inl ⟨by rfl, ?_⟩) (by assumption) ?_
                        rotate_left
                        · (intro w hSw; (try dsimp only at hSw); go_simp <;> with_reducible rfl)
                        try simp only [Act.put, List.setIfInBounds_toArray, List.set_cons_zero, List.set_cons_succ]
                        refine wpAnyH_ready (rs := [0]) (by kernel_rfl) (by simp) ?_
                        refine cons_lit rfl (fun K hK => ?_) ?_
                        · skip
                          go_simp
                          refine hK.out _ _ ?_ (fun hHeld => ?_)
                          · exact HK.out _ (hHeld.1.alloc hHeld.1.size _)
                          clear hK K
                          try simp only [Act.put, List.setIfInBounds_toArray, List.set_cons_zero, List.set_cons_succ]
                          refine wpAnyH_ready (rs := [2]) (by kernel_rfl) (by simp) ?_
                          refine cons_lit rfl (fun K hK => ?_) ?_
                          · skip
                            refine step_new (by rfl) (.tmp 125) (.tmp 126) (by rfl) wr.heap.size (by rfl) (heap_alloc_new _ _) a0 n0 c0 l0 (by rfl) (HS.out _ (hHeld.1)).s0 (by omega) ?_
                            intro b0 e0 x0 hb0 hg0 hz0
                            refine hK.out _ _ ?_ (fun hHeld => ?_)
                            · exact HK.out _ (hHeld.1.grown hg0 hHeld.1.size (fun j hj => by cases hj; exact Nat.le_refl _))
                            clear hK K
                            try simp only [Act.put, List.setIfInBounds_toArray, List.set_cons_zero, List.set_cons_succ]
                            refine wpAnyH_ready (rs := [4]) (by kernel_rfl) (by simp) ?_
                            refine cons_lit rfl (fun K hK => ?_) ?_
                            · skip
                              go_simp
                              go_at_call 11
                              refine (put8_any b0 n0 e0 l0 a1 n1 c1 l1 _ hb0 (HS.out _ (hHeld.1)).s1 (by omega)).mono ?_
                              intro e u1 hl1
                              obtain ⟨r1, m1, d1, hr1, hq1, hp1, hs1, hc1, ht1⟩ := hl1.src
                              clear hl1 hq1 hp1 ht1
                              subst hr1
                              try go_wp2_with fail
                              refine hK.out _ _ ?_ (fun hHeld => ?_)
                              · exact HK.out _ (hHeld.1.trans (hc1.mono hHeld.1.size))
                              clear hK K
                              try simp only [Act.put, List.setIfInBounds_toArray, List.set_cons_zero, List.set_cons_succ]
                              have hu1 : Below wr.heap.size wr u1 := hHeld.1
                              have HK1 : Hid (∀ w', Below u1.heap.size u1 w' → (Below wr.heap.size wr w' ∧ (convert 22 9 (.slice wa wN wc)).run Try.prog w' = .ok (.string (bs (l0 ++ l1))) w' ∧ (convert 22 9 (.slice xa xN xc)).run Try.prog w' = .ok (.string (bs (l0 ++ l2.flatMap be16))) w' ∧ (convert 22 9 (.slice ya yN yc)).run Try.prog w' = .ok (.string (bs (l0 ++ l3.flatMap be32))) w' ∧ (convert 22 9 (.slice za zN zc)).run Try.prog w' = .ok (.string (bs (l0 ++ flat ps))) w') ∧ Below u1.heap.size u1 w' ∧ (convert 22 9 (.slice r1 m1 d1)).run Try.prog w' = .ok (.string (bs (l0 ++ l1))) w') := fun w' h => ⟨HK.out w' (hu1.trans (h.mono hu1.size)), h, (hs1.below h hs1.lt).bs⟩
                              refine wpAnyH_mono (S' := fun w' => (Below wr.heap.size wr w' ∧ (convert 22 9 (.slice wa wN wc)).run Try.prog w' = .ok (.string (bs (l0 ++ l1))) w' ∧ (convert 22 9 (.slice xa xN xc)).run Try.prog w' = .ok (.string (bs (l0 ++ l2.flatMap be16))) w' ∧ (convert 22 9 (.slice ya yN yc)).run Try.prog w' = .ok (.string (bs (l0 ++ l3.flatMap be32))) w' ∧ (convert 22 9 (.slice za zN zc)).run Try.prog w' = .ok (.string (bs (l0 ++ flat ps))) w') ∧ Below u1.heap.size u1 w' ∧ (convert 22 9 (.slice r1 m1 d1)).run Try.prog w' = .ok (.string (bs (l0 ++ l1))) w') (fun _ h => h.1) _ _ _ _ ?_
                              have hHeld := HK1.out u1 (Below.refl _ _)
                              refine take_lit (i := 5) (v := ?_) rfl (by kernel_rfl) (by kernel_rfl) (by kernel_rfl) (fun _ _ _ h => h) (Or.inl ⟨by rfl, ?_⟩) (by assumption) ?_
                              rotate_left
                              · (intro w hSw; (try dsimp only at hSw); go_simp <;> with_reducible rfl)
                              try simp only [Act.put, List.setIfInBounds_toArray, List.set_cons_zero, List.set_cons_succ]
                              refine take_lit (i := 8) (v := ?_) rfl (by kernel_rfl) (by kernel_rfl) (by kernel_rfl) (fun _ _ _ h => h) (Or.inl ⟨by rfl, ?_⟩) (by assumption) ?_
                              rotate_left
                              · (intro w hSw; (try dsimp only at hSw); go_simp <;> with_reducible rfl)
                              try simp only [Act.put, List.setIfInBounds_toArray, List.set_cons_zero, List.set_cons_succ]
                              refine take_lit (i := 9) (v := ?_) rfl (by kernel_rfl) (by kernel_rfl) (by kernel_rfl) (fun _ _ _ h => h) (Or.inl ⟨by rfl, ?_⟩) (by assumption) ?_
                              rotate_left
                              · (intro w hSw; (try dsimp only at hSw); go_simp <;> with_reducible rfl)
                              try simp only [Act.put, List.setIfInBounds_toArray, List.set_cons_zero, List.set_cons_succ]
                              refine take_lit (i := 11) (v := ?_) rfl (by kernel_rfl) (by kernel_rfl) (by kernel_rfl) (fun _ _ _ h => h) (Or.inl ⟨by rfl, ?_⟩) (by assumption) ?_
                              rotate_left
                              · (intro w hSw; (try dsimp only at hSw); go_simp <;> with_reducible rfl)
                              try simp only [Act.put, List.setIfInBounds_toArray, List.set_cons_zero, List.set_cons_succ]
                              refine take_lit (i := 13) (v := ?_) rfl (by kernel_rfl) (by kernel_rfl) (by kernel_rfl) (fun _ _ _ h => h) (Or.inl ⟨by rfl, ?_⟩) (by assumption) ?_
                              rotate_left
                              · (intro w hSw; (try dsimp only at hSw); go_simp <;> with_reducible rfl)
                              try simp only [Act.put, List.setIfInBounds_toArray, List.set_cons_zero, List.set_cons_succ]
                              refine take_lit (i := 16) (v := ?_) rfl (by kernel_rfl) (by kernel_rfl) (by kernel_rfl) (fun _ _ _ h => h) (Or.inl ⟨by rfl, ?_⟩) (by assumption) ?_
                              rotate_left
                              · (intro w hSw; (try dsimp only at hSw); go_simp <;> with_reducible rfl)
                              try simp only [Act.put, List.setIfInBounds_toArray, List.set_cons_zero, List.set_cons_succ]
                              refine take_lit (i := 17) (v := ?_) rfl (by kernel_rfl) (by kernel_rfl) (by kernel_rfl) (fun _ _ _ h => h) (Or.inl ⟨by rfl, ?_⟩) (by assumption) ?_
                              rotate_left
                              · (intro w hSw; (try dsimp only at hSw); go_simp <;> with_reducible rfl)
                              try simp only [Act.put, List.setIfInBounds_toArray, List.set_cons_zero, List.set_cons_succ]
                              refine wpAnyH_ready (rs := [10]) (by kernel_rfl) (by simp) ?_
                              refine cons_lit rfl (fun K hK => ?_) ?_
                              · skip
                                go_simp
                                refine hK.out _ _ ?_ (fun hHeld => ?_)
                                · exact HK1.out _ (hHeld.2.1.alloc hHeld.2.1.size _)
                                clear hK K
                                try simp only [Act.put, List.setIfInBounds_toArray, List.set_cons_zero, List.set_cons_succ]
                                refine wpAnyH_ready (rs := [12]) (by kernel_rfl) (by simp) ?_
                                refine cons_lit rfl (fun K hK => ?_) ?_
                                · skip
                                  refine step_new (by rfl) (.tmp 135) (.tmp 136) (by rfl) u1.heap.size (by rfl) (heap_alloc_new _ _) a0 n0 c0 l0 (by rfl) (HS.out _ ((hu1.trans ((hHeld.2.1).mono hu1.size)))).s0 (by omega) ?_
                                  intro b1 e1 x1 hb1 hg1 hz1
                                  refine hK.out _ _ ?_ (fun hHeld => ?_)
                                  · exact HK1.out _ (hHeld.2.1.grown hg1 hHeld.2.1.size (fun j hj => by cases hj; exact Nat.le_refl _))
                                  clear hK K
                                  try simp only [Act.put, List.setIfInBounds_toArray, List.set_cons_zero, List.set_cons_succ]
                                  refine wpAnyH_ready (rs := [14]) (by kernel_rfl) (by simp) ?_
                                  refine cons_lit rfl (fun K hK => ?_) ?_
                                  · skip
                                    go_simp
                                    go_at_call 12
                                    refine (put16_any b1 n0 e1 l0 a2 n2 c2 l2 _ hb1 (HS.out _ ((hu1.trans ((hHeld.2.1).mono hu1.size)))).s2 (by omega)).mono ?_
                                    intro e u2 hl2
                                    obtain ⟨r2, m2, d2, hr2, hq2, hp2, hs2, hc2, ht2⟩ := hl2.src
                                    clear hl2 hq2 hp2 ht2
                                    subst hr2
                                    try go_wp2_with fail
                                    refine hK.out _ _ ?_ (fun hHeld => ?_)
                                    · exact HK1.out _ (hHeld.2.1.trans (hc2.mono hHeld.2.1.size))
                                    clear hK K
                                    try simp only [Act.put, List.setIfInBounds_toArray, List.set_cons_zero, List.set_cons_succ]
                                    have hu2 : Below u1.heap.size u1 u2 := hHeld.2.1
                                    have HK2 : Hid (∀ w', Below u2.heap.size u2 w' → ((Below wr.heap.size wr w' ∧ (convert 22 9 (.slice wa wN wc)).run Try.prog w' = .ok (.string (bs (l0 ++ l1))) w' ∧ (convert 22 9 (.slice xa xN xc)).run Try.prog w' = .ok (.string (bs (l0 ++ l2.flatMap be16))) w' ∧ (convert 22 9 (.slice ya yN yc)).run Try.prog w' = .ok (.string (bs (l0 ++ l3.flatMap be32))) w' ∧ (convert 22 9 (.slice za zN zc)).run Try.prog w' = .ok (.string (bs (l0 ++ flat ps))) w') ∧ Below u1.heap.size u1 w' ∧ (convert 22 9 (.slice r1 m1 d1)).run Try.prog w' = .ok (.string (bs (l0 ++ l1))) w') ∧ Below u2.heap.size u2 w' ∧ (convert 22 9 (.slice r2 m2 d2)).run Try.prog w' = .ok (.string (bs (l0 ++ l2.flatMap be16))) w') := fun w' h => ⟨HK1.out w' (hu2.trans (h.mono hu2.size)), h, (hs2.below h hs2.lt).bs⟩
                                    refine wpAnyH_mono (S' := fun w' => ((Below wr.heap.size wr w' ∧ (convert 22 9 (.slice wa wN wc)).run Try.prog w' = .ok (.string (bs (l0 ++ l1))) w' ∧ (convert 22 9 (.slice xa xN xc)).run Try.prog w' = .ok (.string (bs (l0 ++ l2.flatMap be16))) w' ∧ (convert 22 9 (.slice ya yN yc)).run Try.prog w' = .ok (.string (bs (l0 ++ l3.flatMap be32))) w' ∧ (convert 22 9 (.slice za zN zc)).run Try.prog w' = .ok (.string (bs (l0 ++ flat ps))) w') ∧ Below u1.heap.size u1 w' ∧ (convert 22 9 (.slice r1 m1 d1)).run Try.prog w' = .ok (.string (bs (l0 ++ l1))) w') ∧ Below u2.heap.size u2 w' ∧ (convert 22 9 (.slice r2 m2 d2)).run Try.prog w' = .ok (.string (bs (l0 ++ l2.flatMap be16))) w') (fun _ h => h.1) _ _ _ _ ?_
                                    have hHeld := HK2.out u2 (Below.refl _ _)
                                    refine take_lit (i := 15) (v := ?_) rfl (by kernel_rfl) (by kernel_rfl) (by kernel_rfl) (fun _ _ _ h => h) (Or.inl ⟨by rfl, ?_⟩) (by assumption) ?_
                                    rotate_left
                                    · (intro w hSw; (try dsimp only at hSw); go_simp <;> with_reducible rfl)
                                    try simp only [Act.put, List.setIfInBounds_toArray, List.set_cons_zero, List.set_cons_succ]
                                    refine take_lit (i := 18) (v := ?_) rfl (by kernel_rfl) (by kernel_rfl) (by kernel_rfl) (fun _ _ _ h => h) (Or.inl ⟨by rfl, ?_⟩) (by assumption) ?_
                                    rotate_left
                                    · (intro w hSw; (try dsimp only at hSw); go_simp <;> with_reducible rfl)
                                    try simp only [Act.put, List.setIfInBounds_toArray, List.set_cons_zero, List.set_cons_succ]
                                    refine take_lit (i := 19) (v := ?_) rfl (by kernel_rfl) (by kernel_rfl) (by kernel_rfl) (fun _ _ _ h => h) (Or.inl ⟨by rfl, ?_⟩) (by assumption) ?_
                                    rotate_left
                                    · (intro w hSw; (try dsimp only at hSw); go_simp <;> with_reducible rfl)
                                    try simp only [Act.put, List.setIfInBounds_toArray, List.set_cons_zero, List.set_cons_succ]
                                    refine take_lit (i := 20) (v := ?_) rfl (by kernel_rfl) (by kernel_rfl) (by kernel_rfl) (fun _ _ _ h => h) (Or.inl ⟨by rfl, ?_⟩) (by assumption) ?_
                                    rotate_left
                                    · (intro w hSw; (try dsimp only at hSw); go_simp <;> with_reducible rfl)
                                    try simp only [Act.put, List.setIfInBounds_toArray, List.set_cons_zero, List.set_cons_succ]
                                    refine take_lit (i := 22) (v := ?_) rfl (by kernel_rfl) (by kernel_rfl) (by kernel_rfl) (fun _ _ _ h => h) (Or.inl ⟨by rfl, ?_⟩) (by assumption) ?_
                                    rotate_left
                                    · (intro w hSw; (try dsimp only at hSw); go_simp <;> with_reducible rfl)
                                    try simp only [Act.put, List.setIfInBounds_toArray, List.set_cons_zero, List.set_cons_succ]
                                    refine take_lit (i := 24) (v := ?_) rfl (by kernel_rfl) (by kernel_rfl) (by kernel_rfl) (fun _ _ _ h => h) (Or.inl ⟨by rfl, ?_⟩) (by assumption) ?_
                                    rotate_left
                                    · (intro w hSw; (try dsimp only at hSw); go_simp <;> with_reducible rfl)
                                    try simp only [Act.put, List.setIfInBounds_toArray, List.set_cons_zero, List.set_cons_succ]
                                    refine take_lit (i := 27) (v := ?_) rfl (by kernel_rfl) (by kernel_rfl) (by kernel_rfl) (fun _ _ _ h => h) (Or.inl ⟨by rfl, ?_⟩) (by assumption) ?_
                                    rotate_left
                                    · (intro w hSw; (try dsimp only at hSw); go_simp <;> with_reducible rfl)
                                    try simp only [Act.put, List.setIfInBounds_toArray, List.set_cons_zero, List.set_cons_succ]
                                    refine take_lit (i := 28) (v := ?_) rfl (by kernel_rfl) (by kernel_rfl) (by kernel_rfl) (fun _ _ _ h => h) (Or.inl ⟨by rfl, ?_⟩) (by assumption) ?_
                                    rotate_left
                                    · (intro w hSw; (try dsimp only at hSw); go_simp <;> with_reducible rfl)
                                    try simp only [Act.put, List.setIfInBounds_toArray, List.set_cons_zero, List.set_cons_succ]
                                    refine wpAnyH_ready (rs := [21]) (by kernel_rfl) (by simp) ?_
                                    refine cons_lit rfl (fun K hK => ?_) ?_
                                    · skip
                                      go_simp
                                      refine hK.out _ _ ?_ (fun hHeld => ?_)
                                      · exact HK2.out _ (hHeld.2.1.alloc hHeld.2.1.size _)
                                      clear hK K
                                      try simp only [Act.put, List.setIfInBounds_toArray, List.set_cons_zero, List.set_cons_succ]
                                      refine wpAnyH_ready (rs := [23]) (by kernel_rfl) (by simp) ?_
                                      refine cons_lit rfl (fun K hK => ?_) ?_
                                      · skip
                                        refine step_new (by rfl) (.tmp 146) (.tmp 147) (by rfl) u2.heap.size (by rfl) (heap_alloc_new _ _) a0 n0 c0 l0 (by rfl) (HS.out _ ((hu1.trans (((hu2.trans ((hHeld.2.1).mono hu2.size))).mono hu1.size)))).s0 (by omega) ?_
                                        intro b2 e2 x2 hb2 hg2 hz2
                                        refine hK.out _ _ ?_ (fun hHeld => ?_)
                                        · exact HK2.out _ (hHeld.2.1.grown hg2 hHeld.2.1.size (fun j hj => by cases hj; exact Nat.le_refl _))
                                        clear hK K
                                        try simp only [Act.put, List.setIfInBounds_toArray, List.set_cons_zero, List.set_cons_succ]
                                        refine wpAnyH_ready (rs := [25]) (by kernel_rfl) (by simp) ?_
                                        refine cons_lit rfl (fun K hK => ?_) ?_
                                        · skip
                                          go_simp
                                          go_at_call 13
                                          refine (put32_any b2 n0 e2 l0 a3 n3 c3 l3 _ hb2 (HS.out _ ((hu1.trans (((hu2.trans ((hHeld.2.1).mono hu2.size))).mono hu1.size)))).s3 (by omega)).mono ?_
                                          intro e u3 hl3
                                          obtain ⟨r3, m3, d3, hr3, hq3, hp3, hs3, hc3, ht3⟩ := hl3.src
                                          clear hl3 hq3 hp3 ht3
                                          subst hr3
                                          try go_wp2_with fail
                                          refine hK.out _ _ ?_ (fun hHeld => ?_)
                                          · exact HK2.out _ (hHeld.2.1.trans (hc3.mono hHeld.2.1.size))
                                          clear hK K
                                          try simp only [Act.put, List.setIfInBounds_toArray, List.set_cons_zero, List.set_cons_succ]
                                          have hu3 : Below u2.heap.size u2 u3 := hHeld.2.1
                                          have HK3 : Hid (∀ w', Below u3.heap.size u3 w' → (((Below wr.heap.size wr w' ∧ (convert 22 9 (.slice wa wN wc)).run Try.prog w' = .ok (.string (bs (l0 ++ l1))) w' ∧ (convert 22 9 (.slice xa xN xc)).run Try.prog w' = .ok (.string (bs (l0 ++ l2.flatMap be16))) w' ∧ (convert 22 9 (.slice ya yN yc)).run Try.prog w' = .ok (.string (bs (l0 ++ l3.flatMap be32))) w' ∧ (convert 22 9 (.slice za zN zc)).run Try.prog w' = .ok (.string (bs (l0 ++ flat ps))) w') ∧ Below u1.heap.size u1 w' ∧ (convert 22 9 (.slice r1 m1 d1)).run Try.prog w' = .ok (.string (bs (l0 ++ l1))) w') ∧ Below u2.heap.size u2 w' ∧ (convert 22 9 (.slice r2 m2 d2)).run Try.prog w' = .ok (.string (bs (l0 ++ l2.flatMap be16))) w') ∧ Below u3.heap.size u3 w' ∧ (convert 22 9 (.slice r3 m3 d3)).run Try.prog w' = .ok (.string (bs (l0 ++ l3.flatMap be32))) w') := fun w' h => ⟨HK2.out w' (hu3.trans (h.mono hu3.size)), h, (hs3.below h hs3.lt).bs⟩
                                          refine wpAnyH_mono (S' := fun w' => (((Below wr.heap.size wr w' ∧ (convert 22 9 (.slice wa wN wc)).run Try.prog w' = .ok (.string (bs (l0 ++ l1))) w' ∧ (convert 22 9 (.slice xa xN xc)).run Try.prog w' = .ok (.string (bs (l0 ++ l2.flatMap be16))) w' ∧ (convert 22 9 (.slice ya yN yc)).run Try.prog w' = .ok (.string (bs (l0 ++ l3.flatMap be32))) w' ∧ (convert 22 9 (.slice za zN zc)).run Try.prog w' = .ok (.string (bs (l0 ++ flat ps))) w') ∧ Below u1.heap.size u1 w' ∧ (convert 22 9 (.slice r1 m1 d1)).run Try.prog w' = .ok (.string (bs (l0 ++ l1))) w') ∧ Below u2.heap.size u2 w' ∧ (convert 22 9 (.slice r2 m2 d2)).run Try.prog w' = .ok (.string (bs (l0 ++ l2.flatMap be16))) w') ∧ Below u3.heap.size u3 w' ∧ (convert 22 9 (.slice r3 m3 d3)).run Try.prog w' = .ok (.string (bs (l0 ++ l3.flatMap be32))) w') (fun _ h => h.1) _ _ _ _ ?_
                                          have hHeld := HK3.out u3 (Below.refl _ _)
                                          refine take_lit (i := 26) (v := ?_) rfl (by kernel_rfl) (by kernel_rfl) (by kernel_rfl) (fun _ _ _ h => h) (Or.inl ⟨by rfl, ?_⟩) (by assumption) ?_
                                          rotate_left
                                          · (intro w hSw; (try dsimp only at hSw); go_simp <;> with_reducible rfl)
                                          try simp only [Act.put, List.setIfInBounds_toArray, List.set_cons_zero, List.set_cons_succ]
                                          refine take_lit (i := 29) (v := ?_) rfl (by kernel_rfl) (by kernel_rfl) (by kernel_rfl) (fun _ _ _ h => h) (Or.inl ⟨by rfl, ?_⟩) (by assumption) ?_
                                          rotate_left
                                          · (intro w hSw; (try dsimp only at hSw); go_simp <;> with_reducible rfl)
                                          try simp only [Act.put, List.setIfInBounds_toArray, List.set_cons_zero, List.set_cons_succ]
                                          refine take_lit (i := 30) (v := ?_) rfl (by kernel_rfl) (by kernel_rfl) (by kernel_rfl) (fun _ _ _ h => h) (Or.inl ⟨by rfl, ?_⟩) (by assumption) ?_
                                          rotate_left
                                          · (intro w hSw; (try dsimp only at hSw); go_simp <;> with_reducible rfl)
                                          try simp only [Act.put, List.setIfInBounds_toArray, List.set_cons_zero, List.set_cons_succ]
                                          refine take_lit (i := 31) (v := ?_) rfl (by kernel_rfl) (by kernel_rfl) (by kernel_rfl) (fun _ _ _ h => h) (Or.inl ⟨by rfl, ?_⟩) (by assumption) ?_
                                          rotate_left
                                          · (intro w hSw; (try dsimp only at hSw); go_simp <;> with_reducible rfl)
                                          try simp only [Act.put, List.setIfInBounds_toArray, List.set_cons_zero, List.set_cons_succ]
                                          refine take_lit (i := 33) (v := ?_) rfl (by kernel_rfl) (by kernel_rfl) (by kernel_rfl) (fun _ _ _ h => h) (Or.inl ⟨by rfl, ?_⟩) (by assumption) ?_
                                          rotate_left
                                          · (intro w hSw; (try dsimp only at hSw); go_simp <;> with_reducible rfl)
                                          try simp only [Act.put, List.setIfInBounds_toArray, List.set_cons_zero, List.set_cons_succ]
                                          refine take_lit (i := 35) (v := ?_) rfl (by kernel_rfl) (by kernel_rfl) (by kernel_rfl) (fun _ _ _ h => h) (Or.inl ⟨by rfl, ?_⟩) (by assumption) ?_
                                          rotate_left
                                          · (intro w hSw; (try dsimp only at hSw); go_simp <;> with_reducible rfl)
                                          try simp only [Act.put, List.setIfInBounds_toArray, List.set_cons_zero, List.set_cons_succ]
                                          refine take_lit (i := 38) (v := ?_) rfl (by kernel_rfl) (by kernel_rfl) (by kernel_rfl) (fun _ _ _ h => h) (Or.inl ⟨by rfl, ?_⟩) (by assumption) ?_
                                          rotate_left
                                          · (intro w hSw; (try dsimp only at hSw); go_simp <;> with_reducible rfl)
                                          try simp only [Act.put, List.setIfInBounds_toArray, List.set_cons_zero, List.set_cons_succ]
                                          refine take_lit (i := 39) (v := ?_) rfl (by kernel_rfl) (by kernel_rfl) (by kernel_rfl) (fun _ _ _ h => h) (Or.inl ⟨by rfl, ?_⟩) (by assumption) ?_
                                          rotate_left
                                          · (intro w hSw; (try dsimp only at hSw); go_simp <;> with_reducible rfl)
                                          try simp only [Act.put, List.setIfInBounds_toArray, List.set_cons_zero, List.set_cons_succ]
                                          refine wpAnyH_ready (rs := [32]) (by kernel_rfl) (by simp) ?_
                                          refine cons_lit rfl (fun K hK => ?_) ?_
                                          · skip
                                            go_simp
                                            refine hK.out _ _ ?_ (fun hHeld => ?_)
                                            · exact HK3.out _ (hHeld.2.1.alloc hHeld.2.1.size _)
                                            clear hK K
                                            try simp only [Act.put, List.setIfInBounds_toArray, List.set_cons_zero, List.set_cons_succ]
                                            refine wpAnyH_ready (rs := [34]) (by kernel_rfl) (by simp) ?_
                                            refine cons_lit rfl (fun K hK => ?_) ?_
                                            · skip
                                              refine step_new (by rfl) (.tmp 157) (.tmp 158) (by rfl) u3.heap.size (by rfl) (heap_alloc_new _ _) a0 n0 c0 l0 (by rfl) (HS.out _ ((hu1.trans (((hu2.trans (((hu3.trans ((hHeld.2.1).mono hu3.size))).mono hu2.size))).mono hu1.size)))).s0 (by omega) ?_
                                              intro b3 e3 x3 hb3 hg3 hz3
                                              refine hK.out _ _ ?_ (fun hHeld => ?_)
                                              · exact HK3.out _ (hHeld.2.1.grown hg3 hHeld.2.1.size (fun j hj => by cases hj; exact Nat.le_refl _))
                                              clear hK K
                                              try simp only [Act.put, List.setIfInBounds_toArray, List.set_cons_zero, List.set_cons_succ]
                                              refine wpAnyH_ready (rs := [36]) (by kernel_rfl) (by simp) ?_
                                              refine cons_lit rfl (fun K hK => ?_) ?_
                                              · skip
                                                go_simp
                                                go_at_call 14
                                                refine (putb_any b3 n0 e3 l0 a4 n4 c4 ps _ hb3 (HS.out _ ((hu1.trans (((hu2.trans (((hu3.trans ((hHeld.2.1).mono hu3.size))).mono hu2.size))).mono hu1.size)))).s4 (HS.out _ ((hu1.trans (((hu2.trans (((hu3.trans ((hHeld.2.1).mono hu3.size))).mono hu2.size))).mono hu1.size)))).pp (by omega) (by have := hflat.out; omega)).mono ?_
                                                intro e u4 hl4
                                                obtain ⟨r4, m4, d4, hr4, hq4, hp4, hs4, hc4, ht4⟩ := hl4.src
                                                clear hl4 hq4 hp4 ht4
                                                subst hr4
                                                try go_wp2_with fail
                                                refine hK.out _ _ ?_ (fun hHeld => ?_)
                                                · exact HK3.out _ (hHeld.2.1.trans (hc4.mono hHeld.2.1.size))
                                                clear hK K
                                                try simp only [Act.put, List.setIfInBounds_toArray, List.set_cons_zero, List.set_cons_succ]
                                                have hu4 : Below u3.heap.size u3 u4 := hHeld.2.1
                                                have HK4 : Hid (∀ w', Below u4.heap.size u4 w' → ((((Below wr.heap.size wr w' ∧ (convert 22 9 (.slice wa wN wc)).run Try.prog w' = .ok (.string (bs (l0 ++ l1))) w' ∧ (convert 22 9 (.slice xa xN xc)).run Try.prog w' = .ok (.string (bs (l0 ++ l2.flatMap be16))) w' ∧ (convert 22 9 (.slice ya yN yc)).run Try.prog w' = .ok (.string (bs (l0 ++ l3.flatMap be32))) w' ∧ (convert 22 9 (.slice za zN zc)).run Try.prog w' = .ok (.string (bs (l0 ++ flat ps))) w') ∧ Below u1.heap.size u1 w' ∧ (convert 22 9 (.slice r1 m1 d1)).run Try.prog w' = .ok (.string (bs (l0 ++ l1))) w') ∧ Below u2.heap.size u2 w' ∧ (convert 22 9 (.slice r2 m2 d2)).run Try.prog w' = .ok (.string (bs (l0 ++ l2.flatMap be16))) w') ∧ Below u3.heap.size u3 w' ∧ (convert 22 9 (.slice r3 m3 d3)).run Try.prog w' = .ok (.string (bs (l0 ++ l3.flatMap be32))) w') ∧ Below u4.heap.size u4 w' ∧ (convert 22 9 (.slice r4 m4 d4)).run Try.prog w' = .ok (.string (bs (l0 ++ flat ps))) w') := fun w' h => ⟨HK3.out w' (hu4.trans (h.mono hu4.size)), h, (hs4.below h hs4.lt).bs⟩
                                                refine wpAnyH_mono (S' := fun w' => ((((Below wr.heap.size wr w' ∧ (convert 22 9 (.slice wa wN wc)).run Try.prog w' = .ok (.string (bs (l0 ++ l1))) w' ∧ (convert 22 9 (.slice xa xN xc)).run Try.prog w' = .ok (.string (bs (l0 ++ l2.flatMap be16))) w' ∧ (convert 22 9 (.slice ya yN yc)).run Try.prog w' = .ok (.string (bs (l0 ++ l3.flatMap be32))) w' ∧ (convert 22 9 (.slice za zN zc)).run Try.prog w' = .ok (.string (bs (l0 ++ flat ps))) w') ∧ Below u1.heap.size u1 w' ∧ (convert 22 9 (.slice r1 m1 d1)).run Try.prog w' = .ok (.string (bs (l0 ++ l1))) w') ∧ Below u2.heap.size u2 w' ∧ (convert 22 9 (.slice r2 m2 d2)).run Try.prog w' = .ok (.string (bs (l0 ++ l2.flatMap be16))) w') ∧ Below u3.heap.size u3 w' ∧ (convert 22 9 (.slice r3 m3 d3)).run Try.prog w' = .ok (.string (bs (l0 ++ l3.flatMap be32))) w') ∧ Below u4.heap.size u4 w' ∧ (convert 22 9 (.slice r4 m4 d4)).run Try.prog w' = .ok (.string (bs (l0 ++ flat ps))) w') (fun _ h => h.1) _ _ _ _ ?_
                                                have hHeld := HK4.out u4 (Below.refl _ _)
                                                refine take_lit (i := 37) (v := ?_) rfl (by kernel_rfl) (by kernel_rfl) (by kernel_rfl) (fun _ _ _ h => h) (Or.inl ⟨by rfl, ?_⟩) (by assumption) ?_
                                                rotate_left
                                                · (intro w hSw; (try dsimp only at hSw); go_simp <;> with_reducible rfl)
                                                try simp only [Act.put, List.setIfInBounds_toArray, List.set_cons_zero, List.set_cons_succ]
                                                refine take_lit (i := 40) (v := ?_) rfl (by kernel_rfl) (by kernel_rfl) (by kernel_rfl) (fun _ _ _ h => h) (Or.inl ⟨by rfl, ?_⟩) (by assumption) ?_
                                                rotate_left
                                                · (intro w hSw; (try dsimp only at hSw); go_simp <;> with_reducible rfl)
                                                try simp only [Act.put, List.setIfInBounds_toArray, List.set_cons_zero, List.set_cons_succ]
                                                refine take_lit (i := 41) (v := ?_) rfl (by kernel_rfl) (by kernel_rfl) (by kernel_rfl) (fun _ _ _ h => h) (Or.inl ⟨by rfl, ?_⟩) (by assumption) ?_
                                                rotate_left
                                                · (intro w hSw; (try dsimp only at hSw); go_simp <;> with_reducible rfl)
                                                try simp only [Act.put, List.setIfInBounds_toArray, List.set_cons_zero, List.set_cons_succ]
                                                refine take_lit (i := 42) (v := ?_) rfl (by kernel_rfl) (by kernel_rfl) (by kernel_rfl) (fun _ _ _ h => h) (Or.inl ⟨by rfl, ?_⟩) (by assumption) ?_
                                                rotate_left
                                                · (intro w hSw; (try dsimp only at hSw); go_simp <;> with_reducible rfl)
                                                try simp only [Act.put, List.setIfInBounds_toArray, List.set_cons_zero, List.set_cons_succ]
                                                refine wpAnyH_ready (rs := [43]) (by kernel_rfl) (by simp) ?_
                                                refine cons_lit rfl (fun K hK => ?_) ?_
                                                · skip
                                                  go_simp
                                                  go_at_call 9
                                                  refine (live_any _).mono ?_
                                                  rintro e u5 ⟨rfl, hc5⟩
                                                  try go_wp2_with fail
                                                  refine hK.out _ _ ?_ (fun hHeld => ?_)
                                                  · exact HK4.out _ (hHeld.2.1.trans (hc5.mono hHeld.2.1.size))
                                                  clear hK K
                                                  try simp only [Act.put, List.setIfInBounds_toArray, List.set_cons_zero, List.set_cons_succ]
                                                  refine take_lit (i := 44) (v := ?_) rfl (by kernel_rfl) (by kernel_rfl) (by kernel_rfl) (fun _ _ _ h => h) (Or.inl ⟨by rfl, ?_⟩) (by assumption) ?_
                                                  rotate_left
                                                  · (intro w hSw; (try dsimp only at hSw); go_simp <;> with_reducible rfl)
                                                  try simp only [Act.put, List.setIfInBounds_toArray, List.set_cons_zero, List.set_cons_succ]
                                                  refine take_lit (i := 45) (v := ?_) rfl (by kernel_rfl) (by kernel_rfl) (by kernel_rfl) (fun _ _ _ h => h) (Or.inl ⟨by rfl, ?_⟩) (by assumption) ?_
                                                  rotate_left
                                                  · (intro w hSw; (try dsimp only at hSw); go_simp <;> with_reducible rfl)
                                                  try simp only [Act.put, List.setIfInBounds_toArray, List.set_cons_zero, List.set_cons_succ]
                                                  refine wpAnyH_done (by kernel_rfl) ?_ _
                                                  refine NoPanic.normal ?_
                                                  go_wp2
                                                  go_ret
                                                  exact ⟨rfl, mr.bel.trans (Below.mono ((hu1.trans (((hu2.trans (((hu3.trans (((hu4.trans ((hHeld.2.1).mono hu4.size))).mono hu3.size))).mono hu2.size))).mono hu1.size))) mr.bel.size)⟩
                                                exact AllReadyH.nil
                                              exact AllReadyH.nil
                                            exact AllReadyH.nil
                                          exact AllReadyH.nil
                                        exact AllReadyH.nil
                                      exact AllReadyH.nil
                                    exact AllReadyH.nil
                                  exact AllReadyH.nil
                                exact AllReadyH.nil
                              exact AllReadyH.nil
                            exact AllReadyH.nil
                          exact AllReadyH.nil
                        exact AllReadyH.nil
end Go.Proofs.Ytelopplkdlbgbaa
