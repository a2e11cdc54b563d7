/-
  changes: the times at which something of a neighbour changes.
-/
import Derived.Test.YtacadlbhgelncaaN29
namespace Go.Proofs.Ytacadlbhgelncaa
open Lk (Hi hcs hcs_one)
open Rk (Rt rcs rtV)
open Go.RowKit Go.Maps Go.Shelf
set_option linter.unusedSimpArgs false
set_option linter.unusedVariables false
set_option maxRecDepth 20000
theorem infoInt : (Try.prog.info? 3).map (fun i => (i.zero, i.size, i.bytes)) = some (some (.int .i64 0), 1, 8) := by kernel_rfl
/-- Numbers in memory of the call's own. -/
def OwnI (w : World) (B : Nat) (v : Value) (l : List Int) : Prop := w.ownsRow B 3 1 v l.length (l.map (Value.int .i64))
theorem OwnI.nil (w : World) (B : Nat) : OwnI w B (.slice none 0 0) [] := World.ownsRow_nil _ _ _ _
theorem OwnI.at_ {w : World} {B : Nat} {v : Value} {l : List Int} (h : OwnI w B v l) : ∃ ad c, v = .slice ad l.length c ∧ (l = [] ∨ ∃ g, ad = some ⟨g, 0, none⟩ ∧ g < w.heap.size ∧ ∀ (j : Nat) (x : Int), l[j]? = some x → w.cell? ⟨g, j, none⟩ = some (.int .i64 x)) := by
  rcases h.2 with ⟨rfl, h1⟩ | ⟨g, cap, cur, e, hB, hh, _⟩
  · exact ⟨none, 0, by rw [h1], .inl (List.eq_nil_of_length_eq_zero h1)⟩
  · refine ⟨some ⟨g, 0, none⟩, cap, e, .inr ⟨g, rfl, (Array.getElem?_eq_some_iff.1 hh).1, fun j x hx => ?_⟩⟩
    have h2 := World.ownsRow.cells (g := g) h (by rw [e]; rfl) j (.int .i64 x) (by rw [List.getElem?_map, hx]; rfl)
    rwa [Addr.add_mid, Nat.zero_add] at h2
theorem OwnI.below {w w' : World} {B : Nat} {v : Value} {l : List Int} (h : OwnI w B v l) (hb : Below w.heap.size w w') : OwnI w' B v l := own_below h hb
theorem OwnI.ne {w : World} {B : Nat} {v : Value} {l : List Int} (h : OwnI w B v l) {g : Nat} (hg : g < B) : v.ownBlock ≠ some g := own_ne_lt h hg
section
variable {w : World} {ops : Array Oper} {rest : List Oper} {o : Oper} {a : Act} {Q : Exit → Act → World → Prop}
theorem appI (s x : Operand) (hw : Region.wanted o (yielded ops a.tmps) = true) (ho : o.op = .call { callee := .builtin .append, args := #[s, x], argTypes := #[95, 95] })
    (B : Nat) (v : Value) (l : List Int) (hs : a.eval s = v) (hown : OwnI w B v l) (g c : Nat) (p : Int) (hx : a.eval x = .slice (some ⟨g, 0, none⟩) 1 c) (hr : Row w g 3 [.int .i64 p]) (hl : l.length ≤ 10000000) (hB : B ≤ w.heap.size)
    (h : ∀ v' w', OwnI w' B v' (l ++ [p]) → w.grownBy w' v.ownBlock → wpList Try.prog ops Q rest (a.put o.dst v') w') : wpList Try.prog ops Q (o :: rest) a w :=
  wpList_step fun K hK => by
    rw [if_pos hw]
    obtain ⟨i0, hi, hz0, hz1, hz2⟩ := info_parts infoInt
    refine wp_append_own w s x 95 ho B 3 i0 (.int .i64 0) 1 8 Try.underlying95 hi hz0 hz1 hz2 rfl (by decide) v l.length (l.map (Value.int .i64)) hs hown ⟨g, 0, none⟩ 1 c [.int .i64 p] hx rfl (fun j u hu => ?_) (by intro u hu; simp at hu; subst hu; rfl) (by unfold maxLen; omega) (by omega) hB (fun v' w' h1 h2 _ => hK _ _ (h v' w' ?_ h2))
    · rw [Addr.add_mid, Nat.zero_add]
      rw [hr.cell]; exact hu
    · unfold OwnI
      rw [List.map_append, List.length_append]
      exact h1
end
theorem bsI1 (v : Int) (w : World) : (Instr.buildSlice 95 1 #[(0, .int .i64 v)]).run Try.prog w = .ok (.slice (some ⟨w.heap.size, 0, none⟩) 1 1) (w.alloc (.cells #[.int .i64 v] 3)) := by kernel_rfl
set_option maxHeartbeats 16000000 in
theorem changes_any (n : Ng) (w : World) : Calls Try.prog 36 #[nV n] w fun e w' => ∃ r, e = .returned r ∧ OwnI w' (w.heap.size + 1) r (chgL n) ∧ Below w.heap.size w w' := by
  have HM := awaited_any n.m n.mg
  have HU := awaited_any n.u n.ug
  have HE : Hid (chgL n = (if awB n.m n.mg then [n.ma] else []) ++ ((if awB n.u n.ug then [n.ua] else []) ++ (if n.tx != 65535 then [n.ta] else []))) := rfl
  generalize chgL n = R at *
  have r0 := Row.new w 55 (ncs n)
  go_enter Try.func36, Try.ntmps36
  go_upto_region 2 with fail
  refine name_world (R := fun W => Code.wp _ _ _ _ W) (P := fun W => Below w.heap.size w W ∧ Row W w.heap.size 55 (ncs n)) _ ⟨ba _ _, r0⟩ ?_
  clear r0
  rintro X ⟨hb, r⟩
  have hz : w.heap.size + 1 ≤ X.heap.size := r.lt
  have ow : OwnI X (w.heap.size + 1) (.slice none 0 0) [] := OwnI.nil _ _
  have c23 := (r.cell 23).trans (nc23 n)
  have c24 := (r.cell 24).trans (nc24 n)
  have c25 := (r.cell 25).trans (nc25 n)
  have c26 := (r.cell 26).trans (nc26 n)
  have c27 := (r.cell 27).trans (nc27 n)
  have c28 := (r.cell 28).trans (nc28 n)
  cases h1 : awB n.m n.mg with
  | false =>
    rw [h1] at HM
    cases h2 : awB n.u n.ug with
    | false =>
      rw [h2] at HU
      cases h3 : (n.tx != 65535) with
      | false =>
        have HX : R = [] := by rw [HE.out, h1, h2, h3]; rfl
        clear HE h1 h2
        have q0 := hz
        go_wp2_with (first
          | (have kk := q1; go_at_call 58; refine (HU _).mono ?_; rintro e wa ⟨rfl, ba1⟩; clear kk q1; replace r := r.below ba1 r.lt; replace hb := bt hb ba1; replace ow := ow.below ba1; replace hz := Nat.le_trans hz ba1.size; have q2 := hz; clear c23 c24 c25 c26 c27 c28; have c23 := (r.cell 23).trans (nc23 n); have c24 := (r.cell 24).trans (nc24 n); have c25 := (r.cell 25).trans (nc25 n); have c26 := (r.cell 26).trans (nc26 n); have c27 := (r.cell 27).trans (nc27 n); have c28 := (r.cell 28).trans (nc28 n))
          | (have kk := q0; go_at_call 58; refine (HM _).mono ?_; rintro e wa ⟨rfl, ba1⟩; clear kk q0; replace r := r.below ba1 r.lt; replace hb := bt hb ba1; replace ow := ow.below ba1; replace hz := Nat.le_trans hz ba1.size; have q1 := hz; clear c23 c24 c25 c26 c27 c28; have c23 := (r.cell 23).trans (nc23 n); have c24 := (r.cell 24).trans (nc24 n); have c25 := (r.cell 25).trans (nc25 n); have c26 := (r.cell 26).trans (nc26 n); have c27 := (r.cell 27).trans (nc27 n); have c28 := (r.cell 28).trans (nc28 n))
          | (have kk := q0; refine ldH (.tmp 4) rfl rfl _ _ n.m rfl r.nM ?_)
          | (refine ldH (.tmp 14) rfl rfl _ _ n.u rfl r.nU ?_))
        go_ret
        exact ⟨_, rfl, by rw [HX]; exact ow, hb⟩
      | true =>
        have HX : R = [n.ta] := by rw [HE.out, h1, h2, h3]; rfl
        clear HE h1 h2
        have q0 := hz
        go_wp2_with (first
          | (have kk := r6; refine appI (.tmp 27) (.tmp 30) rfl rfl (w.heap.size + 1) _ [] rfl ow _ 1 n.ta rfl r6 (by simp) hz ?_; intro v7 W7 o7 g7; clear kk r6; obtain ⟨a7, c7, rfl, _⟩ := OwnI.at_ o7; replace r := r.keepO g7 (OwnI.ne ow (by omega)); replace hb := below_keepO hb g7 (fun b hb' => OwnI.ne ow (by omega)) hb.size; replace hz := Nat.le_trans hz g7.size; clear ow g7; have ow := o7; clear o7; have q3 := hz; clear c23 c24 c25 c26 c27 c28; have c23 := (r.cell 23).trans (nc23 n); have c24 := (r.cell 24).trans (nc24 n); have c25 := (r.cell 25).trans (nc25 n); have c26 := (r.cell 26).trans (nc26 n); have c27 := (r.cell 27).trans (nc27 n); have c28 := (r.cell 28).trans (nc28 n))
          | (have kk := q2; (with_reducible refine bsG (T := 95) (U := 3) (n := 1) [(0, .tmp 29)] [.int .i64 n.ta] ?_ ?_ ?_ ?_); (focus rfl); (focus rfl); (focus exact (fun w => bsI1 _ w)); intro W6 r6 b6; clear kk q2; replace r := r.below b6 r.lt; replace hb := bt hb b6; replace ow := ow.below b6; replace hz := Nat.le_trans hz b6.size; clear c23 c24 c25 c26 c27 c28; have c23 := (r.cell 23).trans (nc23 n); have c24 := (r.cell 24).trans (nc24 n); have c25 := (r.cell 25).trans (nc25 n); have c26 := (r.cell 26).trans (nc26 n); have c27 := (r.cell 27).trans (nc27 n); have c28 := (r.cell 28).trans (nc28 n))
          | (have kk := q1; go_at_call 58; refine (HU _).mono ?_; rintro e wa ⟨rfl, ba1⟩; clear kk q1; replace r := r.below ba1 r.lt; replace hb := bt hb ba1; replace ow := ow.below ba1; replace hz := Nat.le_trans hz ba1.size; have q2 := hz; clear c23 c24 c25 c26 c27 c28; have c23 := (r.cell 23).trans (nc23 n); have c24 := (r.cell 24).trans (nc24 n); have c25 := (r.cell 25).trans (nc25 n); have c26 := (r.cell 26).trans (nc26 n); have c27 := (r.cell 27).trans (nc27 n); have c28 := (r.cell 28).trans (nc28 n))
          | (have kk := q0; go_at_call 58; refine (HM _).mono ?_; rintro e wa ⟨rfl, ba1⟩; clear kk q0; replace r := r.below ba1 r.lt; replace hb := bt hb ba1; replace ow := ow.below ba1; replace hz := Nat.le_trans hz ba1.size; have q1 := hz; clear c23 c24 c25 c26 c27 c28; have c23 := (r.cell 23).trans (nc23 n); have c24 := (r.cell 24).trans (nc24 n); have c25 := (r.cell 25).trans (nc25 n); have c26 := (r.cell 26).trans (nc26 n); have c27 := (r.cell 27).trans (nc27 n); have c28 := (r.cell 28).trans (nc28 n))
          | (have kk := q0; refine ldH (.tmp 4) rfl rfl _ _ n.m rfl r.nM ?_)
          | (refine ldH (.tmp 14) rfl rfl _ _ n.u rfl r.nU ?_))
        go_ret
        exact ⟨_, rfl, by rw [HX]; exact ow, hb⟩
    | true =>
      rw [h2] at HU
      cases h3 : (n.tx != 65535) with
      | false =>
        have HX : R = [n.ua] := by rw [HE.out, h1, h2, h3]; rfl
        clear HE h1 h2
        have q0 := hz
        go_wp2_with (first
          | (have kk := r6; refine appI (.tmp 19) (.tmp 22) rfl rfl (w.heap.size + 1) _ [] rfl ow _ 1 n.ua rfl r6 (by simp) hz ?_; intro v7 W7 o7 g7; clear kk r6; obtain ⟨a7, c7, rfl, _⟩ := OwnI.at_ o7; replace r := r.keepO g7 (OwnI.ne ow (by omega)); replace hb := below_keepO hb g7 (fun b hb' => OwnI.ne ow (by omega)) hb.size; replace hz := Nat.le_trans hz g7.size; clear ow g7; have ow := o7; clear o7; have q3 := hz; clear c23 c24 c25 c26 c27 c28; have c23 := (r.cell 23).trans (nc23 n); have c24 := (r.cell 24).trans (nc24 n); have c25 := (r.cell 25).trans (nc25 n); have c26 := (r.cell 26).trans (nc26 n); have c27 := (r.cell 27).trans (nc27 n); have c28 := (r.cell 28).trans (nc28 n))
          | (have kk := q2; (with_reducible refine bsG (T := 95) (U := 3) (n := 1) [(0, .tmp 21)] [.int .i64 n.ua] ?_ ?_ ?_ ?_); (focus rfl); (focus rfl); (focus exact (fun w => bsI1 _ w)); intro W6 r6 b6; clear kk q2; replace r := r.below b6 r.lt; replace hb := bt hb b6; replace ow := ow.below b6; replace hz := Nat.le_trans hz b6.size; clear c23 c24 c25 c26 c27 c28; have c23 := (r.cell 23).trans (nc23 n); have c24 := (r.cell 24).trans (nc24 n); have c25 := (r.cell 25).trans (nc25 n); have c26 := (r.cell 26).trans (nc26 n); have c27 := (r.cell 27).trans (nc27 n); have c28 := (r.cell 28).trans (nc28 n))
          | (have kk := q1; go_at_call 58; refine (HU _).mono ?_; rintro e wa ⟨rfl, ba1⟩; clear kk q1; replace r := r.below ba1 r.lt; replace hb := bt hb ba1; replace ow := ow.below ba1; replace hz := Nat.le_trans hz ba1.size; have q2 := hz; clear c23 c24 c25 c26 c27 c28; have c23 := (r.cell 23).trans (nc23 n); have c24 := (r.cell 24).trans (nc24 n); have c25 := (r.cell 25).trans (nc25 n); have c26 := (r.cell 26).trans (nc26 n); have c27 := (r.cell 27).trans (nc27 n); have c28 := (r.cell 28).trans (nc28 n))
          | (have kk := q0; go_at_call 58; refine (HM _).mono ?_; rintro e wa ⟨rfl, ba1⟩; clear kk q0; replace r := r.below ba1 r.lt; replace hb := bt hb ba1; replace ow := ow.below ba1; replace hz := Nat.le_trans hz ba1.size; have q1 := hz; clear c23 c24 c25 c26 c27 c28; have c23 := (r.cell 23).trans (nc23 n); have c24 := (r.cell 24).trans (nc24 n); have c25 := (r.cell 25).trans (nc25 n); have c26 := (r.cell 26).trans (nc26 n); have c27 := (r.cell 27).trans (nc27 n); have c28 := (r.cell 28).trans (nc28 n))
          | (have kk := q0; refine ldH (.tmp 4) rfl rfl _ _ n.m rfl r.nM ?_)
          | (refine ldH (.tmp 14) rfl rfl _ _ n.u rfl r.nU ?_))
        go_ret
        exact ⟨_, rfl, by rw [HX]; exact ow, hb⟩
      | true =>
        have HX : R = [n.ua, n.ta] := by rw [HE.out, h1, h2, h3]; rfl
        clear HE h1 h2
        have q0 := hz
        go_wp2_with (first
          | (have kk := r6; refine appI (.tmp 27) (.tmp 30) rfl rfl (w.heap.size + 1) _ [n.ua] rfl ow _ 1 n.ta rfl r6 (by simp) hz ?_; intro v7 W7 o7 g7; clear kk r6; obtain ⟨a7, c7, rfl, _⟩ := OwnI.at_ o7; replace r := r.keepO g7 (OwnI.ne ow (by omega)); replace hb := below_keepO hb g7 (fun b hb' => OwnI.ne ow (by omega)) hb.size; replace hz := Nat.le_trans hz g7.size; clear ow g7; have ow := o7; clear o7; have q4 := hz; clear c23 c24 c25 c26 c27 c28; have c23 := (r.cell 23).trans (nc23 n); have c24 := (r.cell 24).trans (nc24 n); have c25 := (r.cell 25).trans (nc25 n); have c26 := (r.cell 26).trans (nc26 n); have c27 := (r.cell 27).trans (nc27 n); have c28 := (r.cell 28).trans (nc28 n))
          | (have kk := q3; (with_reducible refine bsG (T := 95) (U := 3) (n := 1) [(0, .tmp 29)] [.int .i64 n.ta] ?_ ?_ ?_ ?_); (focus rfl); (focus rfl); (focus exact (fun w => bsI1 _ w)); intro W6 r6 b6; clear kk q3; replace r := r.below b6 r.lt; replace hb := bt hb b6; replace ow := ow.below b6; replace hz := Nat.le_trans hz b6.size; clear c23 c24 c25 c26 c27 c28; have c23 := (r.cell 23).trans (nc23 n); have c24 := (r.cell 24).trans (nc24 n); have c25 := (r.cell 25).trans (nc25 n); have c26 := (r.cell 26).trans (nc26 n); have c27 := (r.cell 27).trans (nc27 n); have c28 := (r.cell 28).trans (nc28 n))
          | (have kk := r6; refine appI (.tmp 19) (.tmp 22) rfl rfl (w.heap.size + 1) _ [] rfl ow _ 1 n.ua rfl r6 (by simp) hz ?_; intro v7 W7 o7 g7; clear kk r6; obtain ⟨a7, c7, rfl, _⟩ := OwnI.at_ o7; replace r := r.keepO g7 (OwnI.ne ow (by omega)); replace hb := below_keepO hb g7 (fun b hb' => OwnI.ne ow (by omega)) hb.size; replace hz := Nat.le_trans hz g7.size; clear ow g7; have ow := o7; clear o7; have q3 := hz; clear c23 c24 c25 c26 c27 c28; have c23 := (r.cell 23).trans (nc23 n); have c24 := (r.cell 24).trans (nc24 n); have c25 := (r.cell 25).trans (nc25 n); have c26 := (r.cell 26).trans (nc26 n); have c27 := (r.cell 27).trans (nc27 n); have c28 := (r.cell 28).trans (nc28 n))
          | (have kk := q2; (with_reducible refine bsG (T := 95) (U := 3) (n := 1) [(0, .tmp 21)] [.int .i64 n.ua] ?_ ?_ ?_ ?_); (focus rfl); (focus rfl); (focus exact (fun w => bsI1 _ w)); intro W6 r6 b6; clear kk q2; replace r := r.below b6 r.lt; replace hb := bt hb b6; replace ow := ow.below b6; replace hz := Nat.le_trans hz b6.size; clear c23 c24 c25 c26 c27 c28; have c23 := (r.cell 23).trans (nc23 n); have c24 := (r.cell 24).trans (nc24 n); have c25 := (r.cell 25).trans (nc25 n); have c26 := (r.cell 26).trans (nc26 n); have c27 := (r.cell 27).trans (nc27 n); have c28 := (r.cell 28).trans (nc28 n))
          | (have kk := q1; go_at_call 58; refine (HU _).mono ?_; rintro e wa ⟨rfl, ba1⟩; clear kk q1; replace r := r.below ba1 r.lt; replace hb := bt hb ba1; replace ow := ow.below ba1; replace hz := Nat.le_trans hz ba1.size; have q2 := hz; clear c23 c24 c25 c26 c27 c28; have c23 := (r.cell 23).trans (nc23 n); have c24 := (r.cell 24).trans (nc24 n); have c25 := (r.cell 25).trans (nc25 n); have c26 := (r.cell 26).trans (nc26 n); have c27 := (r.cell 27).trans (nc27 n); have c28 := (r.cell 28).trans (nc28 n))
          | (have kk := q0; go_at_call 58; refine (HM _).mono ?_; rintro e wa ⟨rfl, ba1⟩; clear kk q0; replace r := r.below ba1 r.lt; replace hb := bt hb ba1; replace ow := ow.below ba1; replace hz := Nat.le_trans hz ba1.size; have q1 := hz; clear c23 c24 c25 c26 c27 c28; have c23 := (r.cell 23).trans (nc23 n); have c24 := (r.cell 24).trans (nc24 n); have c25 := (r.cell 25).trans (nc25 n); have c26 := (r.cell 26).trans (nc26 n); have c27 := (r.cell 27).trans (nc27 n); have c28 := (r.cell 28).trans (nc28 n))
          | (have kk := q0; refine ldH (.tmp 4) rfl rfl _ _ n.m rfl r.nM ?_)
          | (refine ldH (.tmp 14) rfl rfl _ _ n.u rfl r.nU ?_))
        go_ret
        exact ⟨_, rfl, by rw [HX]; exact ow, hb⟩
  | true =>
    rw [h1] at HM
    cases h2 : awB n.u n.ug with
    | false =>
      rw [h2] at HU
      cases h3 : (n.tx != 65535) with
      | false =>
        have HX : R = [n.ma] := by rw [HE.out, h1, h2, h3]; rfl
        clear HE h1 h2
        have q0 := hz
        go_wp2_with (first
          | (have kk := q2; go_at_call 58; refine (HU _).mono ?_; rintro e wa ⟨rfl, ba1⟩; clear kk q2; replace r := r.below ba1 r.lt; replace hb := bt hb ba1; replace ow := ow.below ba1; replace hz := Nat.le_trans hz ba1.size; have q3 := hz; clear c23 c24 c25 c26 c27 c28; have c23 := (r.cell 23).trans (nc23 n); have c24 := (r.cell 24).trans (nc24 n); have c25 := (r.cell 25).trans (nc25 n); have c26 := (r.cell 26).trans (nc26 n); have c27 := (r.cell 27).trans (nc27 n); have c28 := (r.cell 28).trans (nc28 n))
          | (have kk := r6; refine appI (.tmp 9) (.tmp 12) rfl rfl (w.heap.size + 1) _ [] rfl ow _ 1 n.ma rfl r6 (by simp) hz ?_; intro v7 W7 o7 g7; clear kk r6; obtain ⟨a7, c7, rfl, _⟩ := OwnI.at_ o7; replace r := r.keepO g7 (OwnI.ne ow (by omega)); replace hb := below_keepO hb g7 (fun b hb' => OwnI.ne ow (by omega)) hb.size; replace hz := Nat.le_trans hz g7.size; clear ow g7; have ow := o7; clear o7; have q2 := hz; clear c23 c24 c25 c26 c27 c28; have c23 := (r.cell 23).trans (nc23 n); have c24 := (r.cell 24).trans (nc24 n); have c25 := (r.cell 25).trans (nc25 n); have c26 := (r.cell 26).trans (nc26 n); have c27 := (r.cell 27).trans (nc27 n); have c28 := (r.cell 28).trans (nc28 n))
          | (have kk := q1; (with_reducible refine bsG (T := 95) (U := 3) (n := 1) [(0, .tmp 11)] [.int .i64 n.ma] ?_ ?_ ?_ ?_); (focus rfl); (focus rfl); (focus exact (fun w => bsI1 _ w)); intro W6 r6 b6; clear kk q1; replace r := r.below b6 r.lt; replace hb := bt hb b6; replace ow := ow.below b6; replace hz := Nat.le_trans hz b6.size; clear c23 c24 c25 c26 c27 c28; have c23 := (r.cell 23).trans (nc23 n); have c24 := (r.cell 24).trans (nc24 n); have c25 := (r.cell 25).trans (nc25 n); have c26 := (r.cell 26).trans (nc26 n); have c27 := (r.cell 27).trans (nc27 n); have c28 := (r.cell 28).trans (nc28 n))
          | (have kk := q0; go_at_call 58; refine (HM _).mono ?_; rintro e wa ⟨rfl, ba1⟩; clear kk q0; replace r := r.below ba1 r.lt; replace hb := bt hb ba1; replace ow := ow.below ba1; replace hz := Nat.le_trans hz ba1.size; have q1 := hz; clear c23 c24 c25 c26 c27 c28; have c23 := (r.cell 23).trans (nc23 n); have c24 := (r.cell 24).trans (nc24 n); have c25 := (r.cell 25).trans (nc25 n); have c26 := (r.cell 26).trans (nc26 n); have c27 := (r.cell 27).trans (nc27 n); have c28 := (r.cell 28).trans (nc28 n))
          | (have kk := q0; refine ldH (.tmp 4) rfl rfl _ _ n.m rfl r.nM ?_)
          | (refine ldH (.tmp 14) rfl rfl _ _ n.u rfl r.nU ?_))
        go_ret
        exact ⟨_, rfl, by rw [HX]; exact ow, hb⟩
      | true =>
        have HX : R = [n.ma, n.ta] := by rw [HE.out, h1, h2, h3]; rfl
        clear HE h1 h2
        have q0 := hz
        go_wp2_with (first
          | (have kk := r6; refine appI (.tmp 27) (.tmp 30) rfl rfl (w.heap.size + 1) _ [n.ma] rfl ow _ 1 n.ta rfl r6 (by simp) hz ?_; intro v7 W7 o7 g7; clear kk r6; obtain ⟨a7, c7, rfl, _⟩ := OwnI.at_ o7; replace r := r.keepO g7 (OwnI.ne ow (by omega)); replace hb := below_keepO hb g7 (fun b hb' => OwnI.ne ow (by omega)) hb.size; replace hz := Nat.le_trans hz g7.size; clear ow g7; have ow := o7; clear o7; have q4 := hz; clear c23 c24 c25 c26 c27 c28; have c23 := (r.cell 23).trans (nc23 n); have c24 := (r.cell 24).trans (nc24 n); have c25 := (r.cell 25).trans (nc25 n); have c26 := (r.cell 26).trans (nc26 n); have c27 := (r.cell 27).trans (nc27 n); have c28 := (r.cell 28).trans (nc28 n))
          | (have kk := q3; (with_reducible refine bsG (T := 95) (U := 3) (n := 1) [(0, .tmp 29)] [.int .i64 n.ta] ?_ ?_ ?_ ?_); (focus rfl); (focus rfl); (focus exact (fun w => bsI1 _ w)); intro W6 r6 b6; clear kk q3; replace r := r.below b6 r.lt; replace hb := bt hb b6; replace ow := ow.below b6; replace hz := Nat.le_trans hz b6.size; clear c23 c24 c25 c26 c27 c28; have c23 := (r.cell 23).trans (nc23 n); have c24 := (r.cell 24).trans (nc24 n); have c25 := (r.cell 25).trans (nc25 n); have c26 := (r.cell 26).trans (nc26 n); have c27 := (r.cell 27).trans (nc27 n); have c28 := (r.cell 28).trans (nc28 n))
          | (have kk := q2; go_at_call 58; refine (HU _).mono ?_; rintro e wa ⟨rfl, ba1⟩; clear kk q2; replace r := r.below ba1 r.lt; replace hb := bt hb ba1; replace ow := ow.below ba1; replace hz := Nat.le_trans hz ba1.size; have q3 := hz; clear c23 c24 c25 c26 c27 c28; have c23 := (r.cell 23).trans (nc23 n); have c24 := (r.cell 24).trans (nc24 n); have c25 := (r.cell 25).trans (nc25 n); have c26 := (r.cell 26).trans (nc26 n); have c27 := (r.cell 27).trans (nc27 n); have c28 := (r.cell 28).trans (nc28 n))
          | (have kk := r6; refine appI (.tmp 9) (.tmp 12) rfl rfl (w.heap.size + 1) _ [] rfl ow _ 1 n.ma rfl r6 (by simp) hz ?_; intro v7 W7 o7 g7; clear kk r6; obtain ⟨a7, c7, rfl, _⟩ := OwnI.at_ o7; replace r := r.keepO g7 (OwnI.ne ow (by omega)); replace hb := below_keepO hb g7 (fun b hb' => OwnI.ne ow (by omega)) hb.size; replace hz := Nat.le_trans hz g7.size; clear ow g7; have ow := o7; clear o7; have q2 := hz; clear c23 c24 c25 c26 c27 c28; have c23 := (r.cell 23).trans (nc23 n); have c24 := (r.cell 24).trans (nc24 n); have c25 := (r.cell 25).trans (nc25 n); have c26 := (r.cell 26).trans (nc26 n); have c27 := (r.cell 27).trans (nc27 n); have c28 := (r.cell 28).trans (nc28 n))
          | (have kk := q1; (with_reducible refine bsG (T := 95) (U := 3) (n := 1) [(0, .tmp 11)] [.int .i64 n.ma] ?_ ?_ ?_ ?_); (focus rfl); (focus rfl); (focus exact (fun w => bsI1 _ w)); intro W6 r6 b6; clear kk q1; replace r := r.below b6 r.lt; replace hb := bt hb b6; replace ow := ow.below b6; replace hz := Nat.le_trans hz b6.size; clear c23 c24 c25 c26 c27 c28; have c23 := (r.cell 23).trans (nc23 n); have c24 := (r.cell 24).trans (nc24 n); have c25 := (r.cell 25).trans (nc25 n); have c26 := (r.cell 26).trans (nc26 n); have c27 := (r.cell 27).trans (nc27 n); have c28 := (r.cell 28).trans (nc28 n))
          | (have kk := q0; go_at_call 58; refine (HM _).mono ?_; rintro e wa ⟨rfl, ba1⟩; clear kk q0; replace r := r.below ba1 r.lt; replace hb := bt hb ba1; replace ow := ow.below ba1; replace hz := Nat.le_trans hz ba1.size; have q1 := hz; clear c23 c24 c25 c26 c27 c28; have c23 := (r.cell 23).trans (nc23 n); have c24 := (r.cell 24).trans (nc24 n); have c25 := (r.cell 25).trans (nc25 n); have c26 := (r.cell 26).trans (nc26 n); have c27 := (r.cell 27).trans (nc27 n); have c28 := (r.cell 28).trans (nc28 n))
          | (have kk := q0; refine ldH (.tmp 4) rfl rfl _ _ n.m rfl r.nM ?_)
          | (refine ldH (.tmp 14) rfl rfl _ _ n.u rfl r.nU ?_))
        go_ret
        exact ⟨_, rfl, by rw [HX]; exact ow, hb⟩
    | true =>
      rw [h2] at HU
      cases h3 : (n.tx != 65535) with
      | false =>
        have HX : R = [n.ma, n.ua] := by rw [HE.out, h1, h2, h3]; rfl
        clear HE h1 h2
        have q0 := hz
        go_wp2_with (first
          | (have kk := r6; refine appI (.tmp 19) (.tmp 22) rfl rfl (w.heap.size + 1) _ [n.ma] rfl ow _ 1 n.ua rfl r6 (by simp) hz ?_; intro v7 W7 o7 g7; clear kk r6; obtain ⟨a7, c7, rfl, _⟩ := OwnI.at_ o7; replace r := r.keepO g7 (OwnI.ne ow (by omega)); replace hb := below_keepO hb g7 (fun b hb' => OwnI.ne ow (by omega)) hb.size; replace hz := Nat.le_trans hz g7.size; clear ow g7; have ow := o7; clear o7; have q4 := hz; clear c23 c24 c25 c26 c27 c28; have c23 := (r.cell 23).trans (nc23 n); have c24 := (r.cell 24).trans (nc24 n); have c25 := (r.cell 25).trans (nc25 n); have c26 := (r.cell 26).trans (nc26 n); have c27 := (r.cell 27).trans (nc27 n); have c28 := (r.cell 28).trans (nc28 n))
          | (have kk := q3; (with_reducible refine bsG (T := 95) (U := 3) (n := 1) [(0, .tmp 21)] [.int .i64 n.ua] ?_ ?_ ?_ ?_); (focus rfl); (focus rfl); (focus exact (fun w => bsI1 _ w)); intro W6 r6 b6; clear kk q3; replace r := r.below b6 r.lt; replace hb := bt hb b6; replace ow := ow.below b6; replace hz := Nat.le_trans hz b6.size; clear c23 c24 c25 c26 c27 c28; have c23 := (r.cell 23).trans (nc23 n); have c24 := (r.cell 24).trans (nc24 n); have c25 := (r.cell 25).trans (nc25 n); have c26 := (r.cell 26).trans (nc26 n); have c27 := (r.cell 27).trans (nc27 n); have c28 := (r.cell 28).trans (nc28 n))
          | (have kk := q2; go_at_call 58; refine (HU _).mono ?_; rintro e wa ⟨rfl, ba1⟩; clear kk q2; replace r := r.below ba1 r.lt; replace hb := bt hb ba1; replace ow := ow.below ba1; replace hz := Nat.le_trans hz ba1.size; have q3 := hz; clear c23 c24 c25 c26 c27 c28; have c23 := (r.cell 23).trans (nc23 n); have c24 := (r.cell 24).trans (nc24 n); have c25 := (r.cell 25).trans (nc25 n); have c26 := (r.cell 26).trans (nc26 n); have c27 := (r.cell 27).trans (nc27 n); have c28 := (r.cell 28).trans (nc28 n))
          | (have kk := r6; refine appI (.tmp 9) (.tmp 12) rfl rfl (w.heap.size + 1) _ [] rfl ow _ 1 n.ma rfl r6 (by simp) hz ?_; intro v7 W7 o7 g7; clear kk r6; obtain ⟨a7, c7, rfl, _⟩ := OwnI.at_ o7; replace r := r.keepO g7 (OwnI.ne ow (by omega)); replace hb := below_keepO hb g7 (fun b hb' => OwnI.ne ow (by omega)) hb.size; replace hz := Nat.le_trans hz g7.size; clear ow g7; have ow := o7; clear o7; have q2 := hz; clear c23 c24 c25 c26 c27 c28; have c23 := (r.cell 23).trans (nc23 n); have c24 := (r.cell 24).trans (nc24 n); have c25 := (r.cell 25).trans (nc25 n); have c26 := (r.cell 26).trans (nc26 n); have c27 := (r.cell 27).trans (nc27 n); have c28 := (r.cell 28).trans (nc28 n))
          | (have kk := q1; (with_reducible refine bsG (T := 95) (U := 3) (n := 1) [(0, .tmp 11)] [.int .i64 n.ma] ?_ ?_ ?_ ?_); (focus rfl); (focus rfl); (focus exact (fun w => bsI1 _ w)); intro W6 r6 b6; clear kk q1; replace r := r.below b6 r.lt; replace hb := bt hb b6; replace ow := ow.below b6; replace hz := Nat.le_trans hz b6.size; clear c23 c24 c25 c26 c27 c28; have c23 := (r.cell 23).trans (nc23 n); have c24 := (r.cell 24).trans (nc24 n); have c25 := (r.cell 25).trans (nc25 n); have c26 := (r.cell 26).trans (nc26 n); have c27 := (r.cell 27).trans (nc27 n); have c28 := (r.cell 28).trans (nc28 n))
          | (have kk := q0; go_at_call 58; refine (HM _).mono ?_; rintro e wa ⟨rfl, ba1⟩; clear kk q0; replace r := r.below ba1 r.lt; replace hb := bt hb ba1; replace ow := ow.below ba1; replace hz := Nat.le_trans hz ba1.size; have q1 := hz; clear c23 c24 c25 c26 c27 c28; have c23 := (r.cell 23).trans (nc23 n); have c24 := (r.cell 24).trans (nc24 n); have c25 := (r.cell 25).trans (nc25 n); have c26 := (r.cell 26).trans (nc26 n); have c27 := (r.cell 27).trans (nc27 n); have c28 := (r.cell 28).trans (nc28 n))
          | (have kk := q0; refine ldH (.tmp 4) rfl rfl _ _ n.m rfl r.nM ?_)
          | (refine ldH (.tmp 14) rfl rfl _ _ n.u rfl r.nU ?_))
        go_ret
        exact ⟨_, rfl, by rw [HX]; exact ow, hb⟩
      | true =>
        have HX : R = [n.ma, n.ua, n.ta] := by rw [HE.out, h1, h2, h3]; rfl
        clear HE h1 h2
        have q0 := hz
        go_wp2_with (first
          | (have kk := r6; refine appI (.tmp 27) (.tmp 30) rfl rfl (w.heap.size + 1) _ [n.ma, n.ua] rfl ow _ 1 n.ta rfl r6 (by simp) hz ?_; intro v7 W7 o7 g7; clear kk r6; obtain ⟨a7, c7, rfl, _⟩ := OwnI.at_ o7; replace r := r.keepO g7 (OwnI.ne ow (by omega)); replace hb := below_keepO hb g7 (fun b hb' => OwnI.ne ow (by omega)) hb.size; replace hz := Nat.le_trans hz g7.size; clear ow g7; have ow := o7; clear o7; have q5 := hz; clear c23 c24 c25 c26 c27 c28; have c23 := (r.cell 23).trans (nc23 n); have c24 := (r.cell 24).trans (nc24 n); have c25 := (r.cell 25).trans (nc25 n); have c26 := (r.cell 26).trans (nc26 n); have c27 := (r.cell 27).trans (nc27 n); have c28 := (r.cell 28).trans (nc28 n))
          | (have kk := q4; (with_reducible refine bsG (T := 95) (U := 3) (n := 1) [(0, .tmp 29)] [.int .i64 n.ta] ?_ ?_ ?_ ?_); (focus rfl); (focus rfl); (focus exact (fun w => bsI1 _ w)); intro W6 r6 b6; clear kk q4; replace r := r.below b6 r.lt; replace hb := bt hb b6; replace ow := ow.below b6; replace hz := Nat.le_trans hz b6.size; clear c23 c24 c25 c26 c27 c28; have c23 := (r.cell 23).trans (nc23 n); have c24 := (r.cell 24).trans (nc24 n); have c25 := (r.cell 25).trans (nc25 n); have c26 := (r.cell 26).trans (nc26 n); have c27 := (r.cell 27).trans (nc27 n); have c28 := (r.cell 28).trans (nc28 n))
          | (have kk := r6; refine appI (.tmp 19) (.tmp 22) rfl rfl (w.heap.size + 1) _ [n.ma] rfl ow _ 1 n.ua rfl r6 (by simp) hz ?_; intro v7 W7 o7 g7; clear kk r6; obtain ⟨a7, c7, rfl, _⟩ := OwnI.at_ o7; replace r := r.keepO g7 (OwnI.ne ow (by omega)); replace hb := below_keepO hb g7 (fun b hb' => OwnI.ne ow (by omega)) hb.size; replace hz := Nat.le_trans hz g7.size; clear ow g7; have ow := o7; clear o7; have q4 := hz; clear c23 c24 c25 c26 c27 c28; have c23 := (r.cell 23).trans (nc23 n); have c24 := (r.cell 24).trans (nc24 n); have c25 := (r.cell 25).trans (nc25 n); have c26 := (r.cell 26).trans (nc26 n); have c27 := (r.cell 27).trans (nc27 n); have c28 := (r.cell 28).trans (nc28 n))
          | (have kk := q3; (with_reducible refine bsG (T := 95) (U := 3) (n := 1) [(0, .tmp 21)] [.int .i64 n.ua] ?_ ?_ ?_ ?_); (focus rfl); (focus rfl); (focus exact (fun w => bsI1 _ w)); intro W6 r6 b6; clear kk q3; replace r := r.below b6 r.lt; replace hb := bt hb b6; replace ow := ow.below b6; replace hz := Nat.le_trans hz b6.size; clear c23 c24 c25 c26 c27 c28; have c23 := (r.cell 23).trans (nc23 n); have c24 := (r.cell 24).trans (nc24 n); have c25 := (r.cell 25).trans (nc25 n); have c26 := (r.cell 26).trans (nc26 n); have c27 := (r.cell 27).trans (nc27 n); have c28 := (r.cell 28).trans (nc28 n))
          | (have kk := q2; go_at_call 58; refine (HU _).mono ?_; rintro e wa ⟨rfl, ba1⟩; clear kk q2; replace r := r.below ba1 r.lt; replace hb := bt hb ba1; replace ow := ow.below ba1; replace hz := Nat.le_trans hz ba1.size; have q3 := hz; clear c23 c24 c25 c26 c27 c28; have c23 := (r.cell 23).trans (nc23 n); have c24 := (r.cell 24).trans (nc24 n); have c25 := (r.cell 25).trans (nc25 n); have c26 := (r.cell 26).trans (nc26 n); have c27 := (r.cell 27).trans (nc27 n); have c28 := (r.cell 28).trans (nc28 n))
          | (have kk := r6; refine appI (.tmp 9) (.tmp 12) rfl rfl (w.heap.size + 1) _ [] rfl ow _ 1 n.ma rfl r6 (by simp) hz ?_; intro v7 W7 o7 g7; clear kk r6; obtain ⟨a7, c7, rfl, _⟩ := OwnI.at_ o7; replace r := r.keepO g7 (OwnI.ne ow (by omega)); replace hb := below_keepO hb g7 (fun b hb' => OwnI.ne ow (by omega)) hb.size; replace hz := Nat.le_trans hz g7.size; clear ow g7; have ow := o7; clear o7; have q2 := hz; clear c23 c24 c25 c26 c27 c28; have c23 := (r.cell 23).trans (nc23 n); have c24 := (r.cell 24).trans (nc24 n); have c25 := (r.cell 25).trans (nc25 n); have c26 := (r.cell 26).trans (nc26 n); have c27 := (r.cell 27).trans (nc27 n); have c28 := (r.cell 28).trans (nc28 n))
          | (have kk := q1; (with_reducible refine bsG (T := 95) (U := 3) (n := 1) [(0, .tmp 11)] [.int .i64 n.ma] ?_ ?_ ?_ ?_); (focus rfl); (focus rfl); (focus exact (fun w => bsI1 _ w)); intro W6 r6 b6; clear kk q1; replace r := r.below b6 r.lt; replace hb := bt hb b6; replace ow := ow.below b6; replace hz := Nat.le_trans hz b6.size; clear c23 c24 c25 c26 c27 c28; have c23 := (r.cell 23).trans (nc23 n); have c24 := (r.cell 24).trans (nc24 n); have c25 := (r.cell 25).trans (nc25 n); have c26 := (r.cell 26).trans (nc26 n); have c27 := (r.cell 27).trans (nc27 n); have c28 := (r.cell 28).trans (nc28 n))
          | (have kk := q0; go_at_call 58; refine (HM _).mono ?_; rintro e wa ⟨rfl, ba1⟩; clear kk q0; replace r := r.below ba1 r.lt; replace hb := bt hb ba1; replace ow := ow.below ba1; replace hz := Nat.le_trans hz ba1.size; have q1 := hz; clear c23 c24 c25 c26 c27 c28; have c23 := (r.cell 23).trans (nc23 n); have c24 := (r.cell 24).trans (nc24 n); have c25 := (r.cell 25).trans (nc25 n); have c26 := (r.cell 26).trans (nc26 n); have c27 := (r.cell 27).trans (nc27 n); have c28 := (r.cell 28).trans (nc28 n))
          | (have kk := q0; refine ldH (.tmp 4) rfl rfl _ _ n.m rfl r.nM ?_)
          | (refine ldH (.tmp 14) rfl rfl _ _ n.u rfl r.nU ?_))
        go_ret
        exact ⟨_, rfl, by rw [HX]; exact ow, hb⟩
end Go.Proofs.Ytacadlbhgelncaa
