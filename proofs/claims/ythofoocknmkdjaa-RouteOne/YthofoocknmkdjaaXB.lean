/-
  Tell, of every route.
-/
import Derived.Test.YthofoocknmkdjaaX5
import Derived.Test.YthofoocknmkdjaaX6
namespace Go.Proofs.Ythofoocknmkdjaa
open Go.RowKit Go.Maps
set_option linter.unusedSimpArgs false
set_option linter.unusedVariables false
set_option maxRecDepth 20000
/-- The numbers of a route that is handed in. -/
structure Ro.fit (n : Ro) : Prop where
  q0 : 0 ≤ n.q
  q1 : n.q < 65536
  r0 : 0 ≤ n.r
  r1 : n.r < 65536
  m0 : 0 ≤ n.m
  m1 : n.m < 65536
def stayB (old n : Ro) (f : Bool) : Bool := (old.s && !f) && decide (old.id.l = n.id.l)
def tellR (most : Int) (L : List Ro) (now : Int) (n : Ro) (f : Bool) : Int × Int × List Ro :=
  if n.d < 1 ∨ 2147483648 < n.d then (0, 2, L) else match getN L n.k with
  | none => tellNewR most L now n f
  | some old => if stayB old n f = true then (3, 0, L) else (2, 0, putN L (retold old now n))
theorem tell_nil (now : Int) (n : Ro) (f : Bool) (w : World) : Calls Try.prog 26 #[.pointer none, .int .i64 now, rV n, .bool f] w (Gives w (.tuple #[.int .i64 0, .int .i64 7])) := by
  go_enter Try.func26, Try.ntmps26
  go_wp2
  go_ret2
  exact ⟨rfl, ba _ _⟩
theorem retold_k (old n : Ro) (now : Int) : (retold old now n).k = old.k := by
  unfold retold retr Ro.k
  split <;> rfl
theorem retold_ok {old n : Ro} {now : Int} (h : old.ok) (hf : n.fit) (d0 : 1 ≤ n.d) (d1 : n.d ≤ 2147483648) (ha : 0 ≤ now) (hb : now ≤ 17592186044416) : (retold old now n).ok := by
  have e0 := h.d0
  have e1 := h.d1
  unfold retold retr
  split
  · exact ⟨h.q0, h.q1, by show (0 : Int) ≤ 65535; omega, by show (65535 : Int) < 65536; omega, h.m0, h.m1, by show 0 ≤ now + old.d; omega, by show now + old.d ≤ 35184372088832; omega, h.d0, h.d1⟩
  · exact ⟨hf.q0, hf.q1, hf.r0, hf.r1, h.m0, h.m1, by show 0 ≤ now + n.d; omega, by show now + n.d ≤ 35184372088832; omega, d0, d1⟩
theorem put_same {L : List Ro} {n old : Ro} (h : getN L n.k = some old) : (putN L n).length = L.length := putN_in (by rw [h]; rfl)
set_option maxHeartbeats 8000000 in
theorem tell_any {w : World} {t mb : Nat} {most : Int} {L : List Ro} (h : Tb w t mb most L) (n : Ro) (now : Int) (f : Bool) (ha : 0 ≤ now) (hb : now ≤ 17592186044416) (hi : wfK n.k) (hf : n.fit) (hl : L.length < 1000000) :
    Calls Try.prog 26 #[.pointer (some ⟨t, 0, none⟩), .int .i64 now, rV n, .bool f] w fun e w' => e = .returned (.tuple #[.int .i64 (tellR most L now n f).1, .int .i64 (tellR most L now n f).2.1]) ∧ Turn w w' t mb most (tellR most L now n f).2.2 := by
  have HR : Hid (tellR most L now n f = if n.d < 1 ∨ 2147483648 < n.d then (0, 2, L) else match getN L n.k with
    | none => tellNewR most L now n f
    | some old => if stayB old n f = true then (3, 0, L) else (2, 0, putN L (retold old now n))) := rfl
  generalize tellR most L now n f = R at *
  have hX : Hid (∀ W, Below w.heap.size w W → Turn w W t mb most L) := fun W hW => Turn.of h hW
  have HT : Hid (Tb w t mb most L) := h
  have HA : Hid (0 ≤ now ∧ now ≤ 17592186044416) := ⟨ha, hb⟩
  have HF : Hid n.fit := hf
  clear h hf ha hb
  go_enter Try.func26, Try.ntmps26
  go_upto_region 1 with fail
  refine name_world (R := fun W => Code.wp _ _ _ _ W) (P := fun W => Below w.heap.size w W ∧ Row W w.heap.size 41 (ocs n)) _ ⟨ba _ _, Row.new _ _ _⟩ ?_
  rintro X ⟨hB, r0⟩
  have hs := r0.lt
  have c79 : X.cell? ⟨w.heap.size, 79, none⟩ = some (.int .i64 n.d) := (r0.cell 79).trans (oc79 n)
  by_cases h1 : n.d < 1
  · obtain rfl : R = (0, 2, L) := by rw [HR.out, if_pos (.inl h1)]
    clear HR HT
    go_wp2_with fail
    go_ret2
    exact ⟨rfl, hX.out _ hB⟩
  by_cases h2 : 2147483648 < n.d
  · obtain rfl : R = (0, 2, L) := by rw [HR.out, if_pos (.inr h2)]
    clear HR HT
    go_wp2_with fail
    go_ret2
    exact ⟨rfl, hX.out _ hB⟩
  replace HR : Hid (R = match getN L n.k with
    | none => tellNewR most L now n f
    | some old => if stayB old n f = true then (3, 0, L) else (2, 0, putN L (retold old now n))) := by
    show R = _
    rw [HR.out, if_neg (by omega)]
  have HD : Hid (1 ≤ n.d ∧ n.d ≤ 2147483648) := ⟨by omega, by omega⟩
  have hG : Calls Try.prog 15 #[.pointer (some ⟨t, 0, none⟩), (Value.agg (qcells n.p).toArray), .int .i64 n.i, (Value.agg (acells n.a).toArray)] X (Gives X (.tuple #[rV ((getN L n.k).getD zeroR), .bool (getN L n.k).isSome])) := get_any (HT.out.below hB) n.k hi
  have c34 : X.cell? ⟨w.heap.size, 34, none⟩ = some (.int .i64 n.i) := (r0.cell 34).trans (oc34 n)
  have hq : LQ X w.heap.size 0 n.p := r0.ro.q
  have hla : LA X w.heap.size 35 n.a := by have := r0.ro.a; simpa using this
  cases hg : getN L n.k with
  | none =>
    have eR : tellNewR most L now n f = R := by rw [HR.out, hg]
    rw [hg] at hG
    have HN : Hid (∀ W, Below X.heap.size X W → Calls Try.prog 46 #[.pointer (some ⟨t, 0, none⟩), .int .i64 now, rV n, .bool f] W fun e w' => e = .returned (.tuple #[.int .i64 R.1, .int .i64 R.2.1]) ∧ Turn w w' t mb most R.2.2) := fun W hW => by
      rw [← eR]
      have hb := bt hB hW
      refine (tellNew_any (HT.out.below hb) n now f HA.out.1 HA.out.2 hi (fun u u0 u1 => ⟨HF.out.q0, HF.out.q1, HF.out.r0, HF.out.r1, HF.out.m0, HF.out.m1, u0, u1, HD.out.1, HD.out.2⟩) hl).mono ?_
      rintro e w' ⟨rfl, hT⟩
      exact ⟨rfl, hT.pre hb⟩
    clear HR hg eR
    go_wp2_with (first
      | (have kk := b4; go_at_call 46; refine (HN.out _ b4).mono ?_; rintro e w5 ⟨rfl, hT⟩)
      | (have kk := b4; refine ldS (.tmp 6) rfl rfl _ _ n rfl (r0.below b4 hs).ro ?_)
      | (have kk := hr2; refine stS (.tmp 10) (.tmp 31) rfl rfl g2 _ _ rfl rfl hr2 ?_; intro W3 g3 r3; have b4 := grown_below g3 b2 hge2' b2.size; clear hr2)
      | (have kk := b1; refine alG infoRz rfl rfl ?_; intro g2 W2 hge2 hgl2 hB2 hr2; have b2 := bt b1 hB2; have hge2' := (Nat.le_trans b1.size hge2); clear b1)
      | (have kk := hG; go_at_call 15; refine hG.mono ?_; rintro e w1 ⟨rfl, b1⟩; clear hG)
      | (have kk := hG; refine ldA (.tmp 28) rfl rfl _ _ n.a rfl hla ?_)
      | (have kk := hG; refine ldQ (.tmp 24) rfl rfl _ _ n.p rfl hq ?_))
    go_ret2
    exact ⟨rfl, hT⟩
  | some old =>
    replace HR : Hid (R = if stayB old n f = true then (3, 0, L) else (2, 0, putN L (retold old now n))) := by
      show R = _
      rw [HR.out, hg]
    rw [hg] at hG
    dsimp only [Option.getD, Option.isSome] at hG
    obtain ⟨hmem, hkk⟩ := getN_some hg
    have HO : Hid old.ok := HT.out.nok old hmem
    have HK : Hid (getN L (retold old now n).k = some old ∧ wfK (retold old now n).k) := by
      show _ ∧ _
      rw [retold_k, hkk]; exact ⟨hg, hi⟩
    clear hg hmem hkk
    go_upto_region 8 with (first
      | (have kk := hr2; refine stS (.tmp 10) (.tmp 31) rfl rfl g2 old _ rfl rfl hr2 ?_; intro W3 g3 r3; have b4 := grown_below g3 b2 hge2' b2.size; clear hr2)
      | (have kk := b1; refine alG infoRz rfl rfl ?_; intro g2 W2 hge2 hgl2 hB2 hr2; have b2 := bt b1 hB2; have hge2' := (Nat.le_trans b1.size hge2); clear b1)
      | (have kk := hG; go_at_call 15; refine hG.mono ?_; rintro e w1 ⟨rfl, b1⟩; clear hG)
      | (have kk := hG; refine ldA (.tmp 28) rfl rfl _ _ n.a rfl hla ?_)
      | (have kk := hG; refine ldQ (.tmp 24) rfl rfl _ _ n.p rfl hq ?_))
    have q0 := r0.below b4 hs
    have hBX := bt hB b4
    clear hq hla c34 c79 r0 hB b4 b2 g3
    have c80 : W3.cell? ⟨g2, 80, none⟩ = some (.bool old.s) := (r3.cell 80).trans (oc80 old)
    have li1 : LI W3 g2 51 old.id := by have := r3.ro.id; simpa using this
    have li2 : LI W3 w.heap.size 51 n.id := by have := q0.ro.id; simpa using this
    have HE := run_eqlI old.id n.id
    cases hst : stayB old n f with
    | true =>
      obtain rfl : R = (3, 0, L) := by rw [HR.out, if_pos hst]
      clear HR
      unfold stayB at hst
      simp only [Bool.and_eq_true, Bool.not_eq_true'] at hst
      obtain ⟨⟨hst1, rfl⟩, hst3⟩ := hst
      rw [hst1] at c80
      rw [hst3] at HE
      clear hst1 hst3
      go_wp2_with (first
        | (refine ldI (.tmp 49) rfl rfl _ _ old.id rfl li1 ?_)
        | (refine ldI (.tmp 51) rfl rfl _ _ n.id rfl li2 ?_))
      go_ret2
      exact ⟨rfl, hX.out _ hBX⟩
    | false =>
      have HR3 : Hid (R = (2, 0, putN L (retold old now n))) := by show R = _; rw [HR.out, if_neg (by rw [hst]; decide)]
      have HP : Hid (∀ W, Below w.heap.size w W → Calls Try.prog 47 #[.pointer (some ⟨t, 0, none⟩), rV (retold old now n)] W fun e w' => e = .returned (.tuple #[]) ∧ Turn w w' t mb most (putN L (retold old now n))) := fun W hW => by
        refine (put_any (HT.out.below hW) (retold old now n) HK.out.2 (retold_ok HO.out HF.out HD.out.1 HD.out.2 HA.out.1 HA.out.2) (by rw [put_same HK.out.1]; omega)).mono ?_
        rintro e w' ⟨rfl, hT⟩
        exact ⟨rfl, hT.pre hW⟩
      have HRe : Hid (∀ W, Calls Try.prog 48 #[rV old, .int .i64 now, rV n] W (Gives W (rV (retold old now n)))) := fun W => retold_any old n now W HA.out.1 HA.out.2 HD.out.1 HD.out.2 HO.out.d0 HO.out.d1
      have hcut : (old.s && !f) = false ∨ decide (old.id.l = n.id.l) = false := by
        unfold stayB at hst
        cases h5 : (old.s && !f)
        · exact .inl rfl
        · rw [h5] at hst
          exact .inr (by simpa using hst)
      clear HR hst HT HK HO HF hX
      generalize retold old now n = x at *
      generalize putN L x = PL at *
      obtain rfl : R = (2, 0, PL) := HR3.out
      generalize old.s = os at *
      generalize decide (old.id.l = n.id.l) = oe at *
      rcases hcut with hcut | rfl
      · cases os with
        | false =>
          clear hcut
          go_wp2_with (first
            | (have kk := q9; go_at_call 47; refine (HP.out _ q9).mono ?_; rintro e w5 ⟨rfl, hT⟩)
            | (have kk := HRe; go_at_call 48; refine (HRe.out _).mono ?_; clear HRe kk; rintro e w5 ⟨rfl, b5⟩; have q9 := bt hBX b5)
            | (have kk := HRe; refine ldS (.tmp 6) rfl rfl _ _ n rfl q0.ro ?_)
            | (have kk := HRe; refine ldS (.tmp 10) rfl rfl _ _ old rfl r3.ro ?_)
            | (refine ldI (.tmp 49) rfl rfl _ _ old.id rfl li1 ?_)
            | (refine ldI (.tmp 51) rfl rfl _ _ n.id rfl li2 ?_))
          go_ret2
          exact ⟨rfl, hT⟩
        | true =>
          obtain rfl : f = true := by simpa using hcut
          clear hcut
          go_wp2_with (first
            | (have kk := q9; go_at_call 47; refine (HP.out _ q9).mono ?_; rintro e w5 ⟨rfl, hT⟩)
            | (have kk := HRe; go_at_call 48; refine (HRe.out _).mono ?_; clear HRe kk; rintro e w5 ⟨rfl, b5⟩; have q9 := bt hBX b5)
            | (have kk := HRe; refine ldS (.tmp 6) rfl rfl _ _ n rfl q0.ro ?_)
            | (have kk := HRe; refine ldS (.tmp 10) rfl rfl _ _ old rfl r3.ro ?_)
            | (refine ldI (.tmp 49) rfl rfl _ _ old.id rfl li1 ?_)
            | (refine ldI (.tmp 51) rfl rfl _ _ n.id rfl li2 ?_))
          go_ret2
          exact ⟨rfl, hT⟩
      · cases os with
        | false =>
          go_wp2_with (first
            | (have kk := q9; go_at_call 47; refine (HP.out _ q9).mono ?_; rintro e w5 ⟨rfl, hT⟩)
            | (have kk := HRe; go_at_call 48; refine (HRe.out _).mono ?_; clear HRe kk; rintro e w5 ⟨rfl, b5⟩; have q9 := bt hBX b5)
            | (have kk := HRe; refine ldS (.tmp 6) rfl rfl _ _ n rfl q0.ro ?_)
            | (have kk := HRe; refine ldS (.tmp 10) rfl rfl _ _ old rfl r3.ro ?_)
            | (refine ldI (.tmp 49) rfl rfl _ _ old.id rfl li1 ?_)
            | (refine ldI (.tmp 51) rfl rfl _ _ n.id rfl li2 ?_))
          go_ret2
          exact ⟨rfl, hT⟩
        | true =>
          cases f with
          | true =>
            go_wp2_with (first
              | (have kk := q9; go_at_call 47; refine (HP.out _ q9).mono ?_; rintro e w5 ⟨rfl, hT⟩)
              | (have kk := HRe; go_at_call 48; refine (HRe.out _).mono ?_; clear HRe kk; rintro e w5 ⟨rfl, b5⟩; have q9 := bt hBX b5)
              | (have kk := HRe; refine ldS (.tmp 6) rfl rfl _ _ n rfl q0.ro ?_)
              | (have kk := HRe; refine ldS (.tmp 10) rfl rfl _ _ old rfl r3.ro ?_)
              | (refine ldI (.tmp 49) rfl rfl _ _ old.id rfl li1 ?_)
              | (refine ldI (.tmp 51) rfl rfl _ _ n.id rfl li2 ?_))
            go_ret2
            exact ⟨rfl, hT⟩
          | false =>
            go_wp2_with (first
              | (have kk := q9; go_at_call 47; refine (HP.out _ q9).mono ?_; rintro e w5 ⟨rfl, hT⟩)
              | (have kk := HRe; go_at_call 48; refine (HRe.out _).mono ?_; clear HRe kk; rintro e w5 ⟨rfl, b5⟩; have q9 := bt hBX b5)
              | (have kk := HRe; refine ldS (.tmp 6) rfl rfl _ _ n rfl q0.ro ?_)
              | (have kk := HRe; refine ldS (.tmp 10) rfl rfl _ _ old rfl r3.ro ?_)
              | (refine ldI (.tmp 49) rfl rfl _ _ old.id rfl li1 ?_)
              | (refine ldI (.tmp 51) rfl rfl _ _ n.id rfl li2 ?_))
            go_ret2
            exact ⟨rfl, hT⟩
end Go.Proofs.Ythofoocknmkdjaa
