/-
  table: the entries that have a part, by their pairs.
-/
import Derived.Test.YtiihlgcafppehaaF5
import Derived.Test.YtiihlgcafppehaaPair
import Derived.Test.YtiihlgcafppehaaTLast
namespace Go.Proofs.Ytiihlgcafppehaa
open Go.RowKit Go.Maps Go.Shelf
set_option linter.unusedSimpArgs false
set_option linter.unusedVariables false
set_option maxRecDepth 20000
section
variable {ops : Array Oper} {rest : List Oper} {op : Oper} {a : Act} {w w' : World} {Q : Exit → Act → World → Prop} {K : Act → World → Prop} {E : Prop} {S : World → Prop}
theorem lkG {T : TypeId} {b : Bool} (m k : Operand) {mv kv v : Value} (hw : Region.wanted op (yielded ops a.tmps) = true) (ho : op.op = .lookup T m k b) (hm : a.eval m = mv) (hk : a.eval k = kv)
    (hr : (Instr.lookup T mv kv b).run Try.prog w = .ok v w) (h : wpList Try.prog ops Q rest (a.put op.dst v) w) : wpList Try.prog ops Q (op :: rest) a w :=
  wpList_step fun K hK => by
    rw [if_pos hw]
    unfold Oper.wp
    simp [execOp, ho, hm, hk, hr, Result.andThen]
    exact hK _ _ h
theorem muG {T : TypeId} (m k v : Operand) {mv kv vv : Value} (hw : Region.wanted op (yielded ops a.tmps) = true) (ho : op.op = .mapUpdate T m k v) (hm : a.eval m = mv) (hk : a.eval k = kv) (hv : a.eval v = vv)
    (hr : (Instr.mapUpdate T mv kv vv).run Try.prog w = .ok () w') (h : wpList Try.prog ops Q rest (a.put op.dst undef) w') : wpList Try.prog ops Q (op :: rest) a w :=
  wpList_step fun K hK => by
    rw [if_pos hw]
    unfold Oper.wp
    simp [execOp, ho, hm, hk, hv, hr, Result.andThen]
    exact hK _ _ h
end
/-- Entries in memory. -/
structure EsW (w : World) (ad : Option Addr) (l : List En) : Prop where
  lies : l = [] ∨ ∃ g o, ad = some ⟨g, o, none⟩ ∧ g < w.heap.size ∧ ∀ (j : Nat) (p : En), l[j]? = some p → LE w g (o + j * 51) p
theorem EsW.below {w w' : World} {ad : Option Addr} {l : List En} (h : EsW w ad l) (hb : Below w.heap.size w w') : EsW w' ad l :=
  ⟨h.lies.imp id fun ⟨g, o, e, hg, hl⟩ => ⟨g, o, e, Nat.lt_of_lt_of_le hg hb.size, fun j p hp => rangeAt_below (hl j p hp) hb hg⟩⟩
theorem EsW.own {w : World} {B : Nat} {ad : Option Addr} {n c : Nat} {l : List En} (h : kE.Own w B (.slice ad n c) l) : n = l.length ∧ EsW w ad l := by
  obtain ⟨a, c', e, hat⟩ := Kd.own_at h
  cases e
  refine ⟨rfl, ⟨?_⟩⟩
  by_cases hl : l = []
  · exact .inl hl
  · obtain ⟨g, e2, _, hg, _, hc⟩ := hat hl
    exact .inr ⟨g, 0, e2, hg, fun j p hp => by rw [Nat.zero_add]; exact hc j p hp⟩
/-- One more entry: it has a part if its pair may be, and no other of its pair was there. -/
def tabS (L : List En) (e : En) : List En := if (getN mE L e.p).isSome = false ∧ Fa.chkQ e.p = 0 then putN mE L e else L
def tabR (l : List En) : List En := l.foldl tabS []
theorem tab_step {l : List En} {j : Nat} (h : j < l.length) : tabR (l.take (j + 1)) = tabS (tabR (l.take j)) l[j] := by
  unfold tabR
  rw [List.take_succ_eq_append_getElem h, List.foldl_append]
  rfl
theorem meas {n j : Nat} (h : j < n) : n - ((j : Int) + 1).toNat < n - ((j : Int)).toNat := by omega
theorem tab_len (l : List En) : (tabR l).length ≤ l.length := by
  have : ∀ (l : List En) (L : List En), (l.foldl tabS L).length ≤ L.length + l.length := by
    intro l
    induction l with
    | nil => intro L; exact Nat.le_refl _
    | cons e l ih =>
      intro L
      have h := ih (tabS L e)
      have h2 : (tabS L e).length ≤ L.length + 1 := by
        unfold tabS
        split
        · exact putN_le
        · omega
      simp only [List.foldl_cons, List.length_cons]
      omega
  simpa [tabR] using this l []
theorem run_mkE (w : World) : (Instr.makeMap 67 none).run Try.prog w = .ok (.map (some w.heap.size)) (w.alloc (.map #[] 0)) := by kernel_rfl
theorem run_mkT (w : World) : (Instr.makeMap 76 none).run Try.prog w = .ok (.map (some w.heap.size)) (w.alloc (.map #[] 0)) := by kernel_rfl
/-- What has turned of a map's block alone, and of memory from B on. -/
theorem Mp.grow {α : Type} {k : Mk α} {w w' : World} {mb B : Nat} {L : List α} (h : Mp k w mb L) (n : α) (hi : wfQ (k.key n)) (hl : L.length < maxLen) {w0 : World} (hb : Below B w0 w) (hB : B ≤ mb) (hs : B ≤ w.heap.size) : ∃ w', (Instr.mapUpdate k.M (.map (some mb)) (Value.agg (qcells (k.key n)).toArray) (k.val n)).run Try.prog w = .ok () w' ∧ Mp k w' mb (putN k L n) ∧ Below B w0 w' ∧ w.grownBy w' (some mb) := by
  obtain ⟨w', h1, h2, h3⟩ := h.put n hi hl
  exact ⟨w', h1, h2, grown_below h3 hb hB hs, h3⟩
def LRow (w : World) (g : Nat) (n : En) : Prop := Row w g 36 (ecs n)
set_option maxHeartbeats 8000000 in
theorem table_any {w : World} (ad : Option Addr) (c : Nat) (l : List En) (hl : EsW w ad l) (hf : ∀ e ∈ l, wfQ e.p) (hn : l.length ≤ 1000000) : Calls Try.prog 31 #[.slice ad l.length c] w (fun e w' => ∃ mb, e = .returned (.map (some mb)) ∧ Mp mE w' mb (tabR l) ∧ w.heap.size ≤ mb ∧ Below w.heap.size w w') := by
  have hmk := run_mkE w
  go_enter Try.func31, Try.ntmps31
  go_upto_region 2 with fail
  refine name_world (R := fun W => Code.wp _ _ _ _ W) (P := fun W => Below w.heap.size w W ∧ Mp mE W w.heap.size []) _ ⟨ba _ _, Mp.new _ _⟩ ?_
  rintro X ⟨hB0, hM0⟩
  clear hmk
  obtain ⟨mb, hmb⟩ : ∃ mb, w.heap.size = mb := ⟨_, rfl⟩
  have HB : Hid (w.heap.size ≤ mb) := Nat.le_of_eq hmb
  rw [show (w.heap.size : Nat) = mb from hmb] at hM0
  rw [show (Value.map (some w.heap.size)) = .map (some mb) by rw [hmb]]
  clear hmb
  go_wp2_with fail
  go_loopw [11] (fun v wr => ∃ j : Nat, j ≤ l.length ∧ v = .int .i64 j ∧ Mp mE wr mb (tabR (l.take j)) ∧ Below w.heap.size w wr) (fun v _ => l.length - (intOf v).toNat)
  case atStart => exact ⟨0, Nat.zero_le _, rfl, hM0, hB0⟩
  case round =>
    clear hM0 hB0
    obtain ⟨j, hj, rfl, hM, hb⟩ := hrel
    by_cases hlt : j < l.length
    · rcases (hl.below hb).lies with h0 | ⟨g, o, rfl, hg, hcs⟩
      · rw [h0] at hlt; simp at hlt
      have hq : LE wr g (o + j * 51) l[j] := hcs j l[j] (List.getElem?_eq_getElem hlt)
      have hw := hf l[j] (List.getElem_mem hlt)
      have hji : (j : Int) < (l.length : Int) := by omega
      have hw64 : wrap64 ((j : Int) + 1) = (j : Int) + 1 := by unfold wrap64; omega
      have HJ : Hid (j + 1 ≤ l.length) := hlt
      have HM : Hid (l.length - ((j : Int) + 1).toNat < l.length - ((j : Int)).toNat) := meas hlt
      have HT : Hid (tabR (l.take (j + 1)) = tabS (tabR (l.take j)) (l[j]'hlt)) := tab_step hlt
      have hLl : (tabR (l.take j)).length < maxLen := by have := tab_len (l.take j); rw [List.length_take] at this; unfold maxLen; omega
      clear hcs hf hl hn
      generalize (l[j]'hlt) = n at *
      generalize tabR (l.take j) = L at *
      have hLk := fun W (h : Mp mE W mb L) => h.look hw
      have hC := Fa.checkQ_any n.p
      have HN : Hid (∀ W B w0, Mp mE W mb L → Below B w0 W → B ≤ mb → B ≤ W.heap.size → ∃ w', (Instr.mapUpdate mE.M (.map (some mb)) (Value.agg (qcells n.p).toArray) (eV n)).run Try.prog W = .ok () w' ∧ Mp mE w' mb (putN mE L n) ∧ Below B w0 w' ∧ W.grownBy w' (some mb)) := fun W B w0 h h1 h2 h3 => Mp.grow (w' := W) h n hw hLl h1 h2 h3
      have HS : Hid (tabS L n = if (getN mE L n.p).isSome = false ∧ Fa.chkQ n.p = 0 then putN mE L n else L) := rfl
      obtain ⟨v0, ho⟩ : ∃ o, getN mE L n.p = o := ⟨_, rfl⟩
      rw [ho] at HS hLk
      clear ho
      generalize Fa.chkQ n.p = ck at *
      have c1 := hM
      cases v0 with
      | some u =>
        replace hLk : ∀ W, Mp mE W mb L → (Instr.lookup 67 (.map (some mb)) (Value.agg (qcells n.p).toArray) true).run Try.prog W = .ok (.tuple #[eV u, .bool true]) W := hLk
        have HF : Hid (tabR (l.take (j + 1)) = L) := by rw [HT.out, HS.out]; exact if_neg (fun h => by cases h.1)
        go_wp2_with (first
          | (have kk := q6; (with_reducible refine stE (.tmp 6) (.tmp 20) ?_ ?_ g6 u zeroE ?_ ?_ ?_ ?_); (focus rfl); (focus rfl); (focus rfl); (focus rfl); (focus exact q6); intro W7 gr6 r6; have k6 := grown_below gr6 b6 h6 b6.size; clear q6)
          | (have kk := r5; (with_reducible refine alG infoEz ?_ ?_ ?_); (focus rfl); (focus rfl); intro g6 W6 h6 l6 b6 q6)
          | (have kk := r5; (with_reducible refine lkG (.tmp 16) (.tmp 18) ?_ ?_ ?_ ?_ (hLk _ (hM.below k5 hM.lt)) ?_); (focus rfl); (focus rfl); (focus rfl); (focus rfl))
          | (have kk := r5; refine ldQ (.tmp 17) rfl rfl _ _ n.p rfl r5.en.q ?_)
          | (have kk := q5; (with_reducible refine stE (.tmp 5) (.tmp 14) ?_ ?_ g5 n zeroE ?_ ?_ ?_ ?_); (focus rfl); (focus rfl); (focus rfl); (focus rfl); (focus exact q5); intro W5 gr5 r5; have k5 := grown_below gr5 b5 h5 b5.size; clear q5)
          | ((with_reducible refine alG infoEz ?_ ?_ ?_); (focus rfl); (focus rfl); intro g5 W4 h5 l5 b5 q5)
          | (refine ldE (.tmp 13) rfl rfl _ _ n rfl hq ?_))
        go_roundw
        case rel => exact ⟨j + 1, HJ.out, by first | (rw [hw64]; rfl) | rfl | go_num, by rw [HF.out]; exact hM.below (bt k5 k6) hM.lt, bt hb (bt k5 k6)⟩
        case measure => first | (rw [hw64]; simp only [intOf]; exact HM.out) | (simp only [intOf]; exact HM.out)
      | none =>
        replace hLk : ∀ W, Mp mE W mb L → (Instr.lookup 67 (.map (some mb)) (Value.agg (qcells n.p).toArray) true).run Try.prog W = .ok (.tuple #[eV zeroE, .bool false]) W := hLk
        by_cases hck : ck = 0
        · have hck' : (ck == 0) = true := by simpa using hck
          have HF : Hid (tabR (l.take (j + 1)) = putN mE L n) := by rw [HT.out, HS.out]; exact if_pos ⟨rfl, hck⟩
          clear HT HS hck
          go_wp2_with (first
            | (have kk := M8; (with_reducible refine muG (.tmp 30) (.tmp 32) (.tmp 33) ?_ ?_ ?_ ?_ ?_ hmu ?_); (focus rfl); (focus rfl); (focus rfl); (focus rfl); (focus rfl))
            | (have kk := M8; refine ldE (.tmp 5) rfl rfl _ _ n rfl r8.en ?_; obtain ⟨W9, hmu, M9, b9, _⟩ := HN.out _ _ _ M8 b8 HB.out b8.size)
            | (have kk := M8; refine ldQ (.tmp 31) rfl rfl _ _ n.p rfl r8.en.q ?_)
            | (have kk := r56; go_at_call 9; refine (hC _).mono ?_; rintro e W8 ⟨rfl, k8⟩; have r8 := r56.below k8 r56.lt; have b8 := bt hb (bt (bt k5 k6) k8); have M8 := hM.below (bt (bt k5 k6) k8) hM.lt)
            | (have kk := r56; refine ldQ (.tmp 25) rfl rfl _ _ n.p rfl r56.en.q ?_)
            | (have kk := q6; (with_reducible refine stE (.tmp 6) (.tmp 20) ?_ ?_ g6 zeroE zeroE ?_ ?_ ?_ ?_); (focus rfl); (focus rfl); (focus rfl); (focus rfl); (focus exact q6); intro W7 gr6 r6; have k6 := grown_below gr6 b6 h6 b6.size; have r56 := (r5.below b6 r5.lt).keep gr6 (fun e => by omega); clear q6)
            | (have kk := r5; (with_reducible refine alG infoEz ?_ ?_ ?_); (focus rfl); (focus rfl); intro g6 W6 h6 l6 b6 q6; have l5' := r5.lt)
            | (have kk := r5; (with_reducible refine lkG (.tmp 16) (.tmp 18) ?_ ?_ ?_ ?_ (hLk _ (hM.below k5 hM.lt)) ?_); (focus rfl); (focus rfl); (focus rfl); (focus rfl))
            | (have kk := r5; refine ldQ (.tmp 17) rfl rfl _ _ n.p rfl r5.en.q ?_)
            | (have kk := q5; (with_reducible refine stE (.tmp 5) (.tmp 14) ?_ ?_ g5 n zeroE ?_ ?_ ?_ ?_); (focus rfl); (focus rfl); (focus rfl); (focus rfl); (focus exact q5); intro W5 gr5 r5; have k5 := grown_below gr5 b5 h5 b5.size; clear q5)
            | ((with_reducible refine alG infoEz ?_ ?_ ?_); (focus rfl); (focus rfl); intro g5 W4 h5 l5 b5 q5)
            | (refine ldE (.tmp 13) rfl rfl _ _ n rfl hq ?_))
          go_roundw
          case rel => exact ⟨j + 1, HJ.out, by first | (rw [hw64]; rfl) | rfl | go_num, by rw [HF.out]; exact M9, b9⟩
          case measure => first | (rw [hw64]; simp only [intOf]; exact HM.out) | (simp only [intOf]; exact HM.out)
        · have hck' : (ck == 0) = false := by simpa using hck
          have HF : Hid (tabR (l.take (j + 1)) = L) := by rw [HT.out, HS.out]; exact if_neg (fun h => hck h.2)
          clear HT HS hck
          go_wp2_with (first
            | (have kk := r56; go_at_call 9; refine (hC _).mono ?_; rintro e W8 ⟨rfl, k8⟩; have b8 := bt hb (bt (bt k5 k6) k8); have M8 := hM.below (bt (bt k5 k6) k8) hM.lt)
            | (have kk := r56; refine ldQ (.tmp 25) rfl rfl _ _ n.p rfl r56.en.q ?_)
            | (have kk := q6; (with_reducible refine stE (.tmp 6) (.tmp 20) ?_ ?_ g6 zeroE zeroE ?_ ?_ ?_ ?_); (focus rfl); (focus rfl); (focus rfl); (focus rfl); (focus exact q6); intro W7 gr6 r6; have k6 := grown_below gr6 b6 h6 b6.size; have r56 := (r5.below b6 r5.lt).keep gr6 (fun e => by omega); clear q6)
            | (have kk := r5; (with_reducible refine alG infoEz ?_ ?_ ?_); (focus rfl); (focus rfl); intro g6 W6 h6 l6 b6 q6; have l5' := r5.lt)
            | (have kk := r5; (with_reducible refine lkG (.tmp 16) (.tmp 18) ?_ ?_ ?_ ?_ (hLk _ (hM.below k5 hM.lt)) ?_); (focus rfl); (focus rfl); (focus rfl); (focus rfl))
            | (have kk := r5; refine ldQ (.tmp 17) rfl rfl _ _ n.p rfl r5.en.q ?_)
            | (have kk := q5; (with_reducible refine stE (.tmp 5) (.tmp 14) ?_ ?_ g5 n zeroE ?_ ?_ ?_ ?_); (focus rfl); (focus rfl); (focus rfl); (focus rfl); (focus exact q5); intro W5 gr5 r5; have k5 := grown_below gr5 b5 h5 b5.size; clear q5)
            | ((with_reducible refine alG infoEz ?_ ?_ ?_); (focus rfl); (focus rfl); intro g5 W4 h5 l5 b5 q5)
            | (refine ldE (.tmp 13) rfl rfl _ _ n rfl hq ?_))
          go_roundw
          case rel => exact ⟨j + 1, HJ.out, by first | (rw [hw64]; rfl) | rfl | go_num, by rw [HF.out]; exact M8, b8⟩
          case measure => first | (rw [hw64]; simp only [intOf]; exact HM.out) | (simp only [intOf]; exact HM.out)
    · have hje : j = l.length := Nat.le_antisymm hj (Nat.not_lt.1 hlt)
      subst hje
      have hji : ¬ (l.length : Int) < (l.length : Int) := Int.lt_irrefl _
      rw [List.take_length] at hM
      clear hlt hj hl hf hn
      go_wp2_with fail
      go_ret
      exact ⟨_, rfl, hM, HB.out, hb⟩
end Go.Proofs.Ytiihlgcafppehaa
