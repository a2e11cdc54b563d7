/-
  Select of a table that is there.
-/
import Derived.Test.YthofoocknmkdjaaXN
namespace Go.Proofs.Ythofoocknmkdjaa
open Go.RowKit Go.Maps Go.Shelf
set_option linter.unusedSimpArgs false
set_option linter.unusedVariables false
set_option maxRecDepth 20000
def onN (n : Ro) : Ro := n.sS true
def selR (L : List Ro) (k : Ky) : Int × List Ro := match getN L k with
  | none => (7, L)
  | some r => (0, putN (unR k.p L) (onN r))
theorem onN_ok {n : Ro} (h : n.ok) : (onN n).ok := ⟨h.q0, h.q1, h.r0, h.r1, h.m0, h.m1, h.u0, h.u1, h.d0, h.d1⟩
theorem PsW.one {w : World} {g : Nat} {p : Pr} (h : Row w g 36 (qcells p)) : PsW w (some ⟨g, 0, none⟩) [p] :=
  ⟨.inr ⟨g, 0, rfl, h.lt, fun j q hq => by
    match j, hq with
    | 0, rfl => exact h.range⟩⟩
theorem put_on {w : World} {t mb : Nat} {most : Int} {L : List Ro} {k : Ky} {r : Ro} (h : Tb w t mb most (unR k.p L)) (hg : getN L k = some r) (hwf : wfK k) (hok : r.ok) :
    Calls Try.prog 47 #[.pointer (some ⟨t, 0, none⟩), rV (onN r)] w fun e w' => e = .returned (.tuple #[]) ∧ Turn w w' t mb most (selR L k).2 := by
  obtain ⟨hr, hk⟩ := getN_some hg
  have e : (selR L k).2 = putN (unR k.p L) (onN r) := by unfold selR; rw [hg]
  have hw : wfK (onN r).k := by show wfK r.k; rw [hk]; exact hwf
  have hl : (putN (unR k.p L) (onN r)).length ≤ 1000000 := by
    rw [putN_len, if_pos]
    · exact h.ll
    · rw [List.any_eq_true]
      refine ⟨_, List.mem_map.2 ⟨r, hr, rfl⟩, ?_⟩
      rw [keyB_iff]
      split <;> rfl
  rw [e]
  exact put_any h (onN r) hw (onN_ok hok) hl
set_option maxHeartbeats 8000000 in
theorem select_any {w : World} {t mb : Nat} {most : Int} {L : List Ro} (h : Tb w t mb most L) (h1 : OneS L) (k : Ky) (hi : wfK k) :
    Calls Try.prog 32 #[.pointer (some ⟨t, 0, none⟩), (Value.agg (qcells k.p).toArray), .int .i64 k.i, (Value.agg (acells k.a).toArray)] w fun e w' => e = .returned (.int .i64 (selR L k).1) ∧ Turn w w' t mb most (selR L k).2 := by
  have hG := fun W (h : Tb W t mb most L) => get_any h k hi
  have hU := fun W (a : Option Addr) (c : Nat) (h : Tb W t mb most L) (hp : PsW W a [k.p]) => unselect_any h h1 a c [k.p] hp (by simp)
  have hUL : (unL [k.p] L).1 = unR k.p L := rfl
  obtain ⟨hB, r0, r1⟩ := low_rows w (qcells k.p) (acells k.a) 36 32
  have htm : mb < w.heap.size := h.map.lt
  go_enter Try.func32, Try.ntmps32
  go_upto_region 1 with fail
  refine name_world (R := fun W => Code.wp _ _ _ _ W) (P := fun W => Below w.heap.size w W ∧ Row W w.heap.size 36 (qcells k.p) ∧ Row W (w.heap.size + 1) 32 (acells k.a)) _ ⟨hB, r0, r1⟩ ?_
  clear hB r0 r1
  rintro X ⟨hB, r0, r1⟩
  have hX := h.below hB
  have HTn : Hid (∀ W W' L', Below X.heap.size X W → Turn W W' t mb most L' → Turn w W' t mb most L') := fun W W' L' a b => (b.pre a).pre hB
  have HQ : Hid (∀ W, Below X.heap.size X W → LQ W w.heap.size 0 k.p) := fun W a => (r0.below a r0.lt).range
  have HA : Hid (∀ W, Below X.heap.size X W → LA W (w.heap.size + 1) 0 k.a) := fun W a => (r1.below a r1.lt).range
  have HT : Hid (∀ W, Below X.heap.size X W → Tb W t mb most L) := fun W a => hX.below a
  have b0 := Below.refl X.heap.size X
  clear hB r0 r1 h
  cases hg : getN L k with
  | none =>
    have hv : getV (getN L k) = .tuple #[rV zeroR, .bool false] := by rw [hg]; rfl
    have HE : Hid (selR L k = (7, L)) := by show _ = _; unfold selR; rw [hg]
    rw [hv] at hG
    clear hg hU hv
    go_wp2_with (first
      | (have kk := r4; refine stS (.tmp 9) (.tmp 17) rfl rfl g4 zeroR _ rfl rfl r4 ?_; intro W5 g5 r5; have b5 := grown_below g5 b4 (Nat.le_trans b3.size hge4) b4.size; clear r4)
      | (have kk := b3; refine alG infoRz rfl rfl ?_; intro g4 W4 hge4 hgl4 hB4 r4; have b4 := bt b3 hB4)
      | (go_at_call 15; refine (hG _ (HT.out _ b0)).mono ?_; rintro e w3 ⟨rfl, k3⟩; have b3 := bt b0 k3)
      | (refine ldA (.tmp 7) rfl rfl _ _ k.a rfl (HA.out _ b0) ?_)
      | (refine ldQ (.tmp 5) rfl rfl _ _ k.p rfl (HQ.out _ b0) ?_))
    go_ret
    have e := HE.out
    exact ⟨by rw [e]; rfl, by rw [e]; exact HTn.out _ _ _ (Below.refl _ _) (Turn.of hX b5)⟩
  | some r =>
    have hv : getV (getN L k) = .tuple #[rV r, .bool true] := by rw [hg]; rfl
    have HE : Hid ((selR L k).1 = 0) := by show _ = _; unfold selR; rw [hg]
    have hok : r.ok := hX.nok r (getN_some hg).1
    have hPt := fun W (h : Tb W t mb most (unR k.p L)) => put_on h hg hi hok
    rw [hv] at hG
    rw [hUL] at hU
    have htX := hX.lt
    have hmX := hX.map.lt
    clear hv hok
    go_wp2_with (first
      | (have kk := q8; go_at_call 47; refine (hPt _ T8.tb).mono ?_; rintro e w9 ⟨rfl, hT9⟩; have t9 := HTn.out _ _ _ (Below.refl _ _) (T8.trans hT9); clear q8)
      | (have kk := q8; refine ldS (.tmp 9) rfl rfl _ _ (onN r) rfl q8.ro ?_)
      | (have kk := r7; (with_reducible refine inL ?_ fun K hK => ?_); (focus rfl); refine wp_stSe (.tmp 25) (.const (.bool true)) rfl g4 true r rfl rfl r7 ?_; intro W8 g8 q8; refine hK _ _ ?_; have T8 := T7.grow g8 (fun b e => by cases e; exact Nat.le_trans b3.size hge4) htX hmX; clear r7)
      | (have kk := r6; go_at_call 33; refine (hU _ _ _ (HT.out _ b6) (PsW.one r6)).mono ?_; rintro e w7 ⟨rfl, T0⟩; have hgm : g4 ≠ mb := (HT.out _ b6).map.ne_row r56; have r7 := T0.row r56 hgm; have T7 := T0.pre b6; clear r6 T0)
      | (have kk := r5; (with_reducible refine bsG (T := 56) (U := 36) (n := 1) [(0, .tmp 22)] (qcells k.p) ?_ ?_ ?_ ?_); (focus rfl); (focus rfl); (focus exact (fun w => bsP1 k.p w)); intro W6 r6 k6; have b6 := bt b5 k6; have r56 := r5.below k6 r5.lt; clear r5)
      | (have kk := r5; refine ldQ (.tmp 5) rfl rfl _ _ k.p rfl (HQ.out _ b5) ?_)
      | (have kk := r4; refine stS (.tmp 9) (.tmp 17) rfl rfl g4 r _ rfl rfl r4 ?_; intro W5 g5 r5; have b5 := grown_below g5 b4 (Nat.le_trans b3.size hge4) b4.size; clear r4)
      | (have kk := b3; refine alG infoRz rfl rfl ?_; intro g4 W4 hge4 hgl4 hB4 r4; have b4 := bt b3 hB4)
      | (go_at_call 15; refine (hG _ (HT.out _ b0)).mono ?_; rintro e w3 ⟨rfl, k3⟩; have b3 := bt b0 k3)
      | (refine ldA (.tmp 7) rfl rfl _ _ k.a rfl (HA.out _ b0) ?_)
      | (refine ldQ (.tmp 5) rfl rfl _ _ k.p rfl (HQ.out _ b0) ?_))
    go_ret
    exact ⟨by rw [HE.out]; rfl, t9⟩
end Go.Proofs.Ythofoocknmkdjaa
