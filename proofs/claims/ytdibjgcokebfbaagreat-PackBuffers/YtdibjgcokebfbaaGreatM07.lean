/-
  address, whom, prefix, where and source of package pack.
-/
import Derived.Test.YtdibjgcokebfbaaGreatM06
import Derived.Test.YtdibjgcokebfbaaGreatM05
namespace Go.Proofs.YtdibjgcokebfbaaGreat
open Go.RowKit
set_option linter.unusedSimpArgs false
set_option maxRecDepth 20000

/-- The bytes of a block from a place on. -/
theorem Row.part {w : World} {g : Nat} {t : TypeId} {pre mid post : List Value} (hr : Row w g t (pre ++ (mid ++ post))) {o n : Nat} (c : Nat) (ho : pre.length = o) (hn : mid.length = n) : Src w (some ⟨g, o, none⟩) n c mid :=
  ⟨hn, (fun h => by cases h), fun ad had j u hu => by
    cases had
    rw [Addr.add_mid, hr.cell, List.getElem?_append_right (by omega), ho, Nat.add_sub_cancel_left, List.getElem?_append_left (List.getElem?_eq_some_iff.1 hu).1]
    exact hu⟩
theorem Row.partA {w : World} {g : Nat} {a : Ad} (hr : Row w g 23 (acells a)) (o : Nat) (c : Nat) (ho : o ≤ 16) : Src w (some ⟨g, o, none⟩) (16 - o) c (bcells (a.l.drop o)) := by
  have e : acells a = bcells (a.l.take o) ++ (bcells (a.l.drop o) ++ []) := by rw [List.append_nil, ← bcells_append, List.take_append_drop]; rfl
  rw [e] at hr
  exact hr.part c (by rw [bcells_length, List.length_take, a.len]; omega) (by rw [bcells_length, List.length_drop, a.len])
theorem famA_or (a : Ad) : famA a = 4 ∨ famA a = 6 := by unfold famA; split <;> simp
theorem famP_or2 (a : Pf) : famP a = 4 ∨ famP a = 6 := by unfold famP; split <;> simp
theorem llE : Value.agg #[.int .u8 254, .int .u8 128, .int .u8 0, .int .u8 0, .int .u8 0, .int .u8 0, .int .u8 0, .int .u8 0, .int .u8 0, .int .u8 0, .int .u8 0, .int .u8 0, .int .u8 0, .int .u8 0, .int .u8 0, .int .u8 0, .int .i64 64] = (Value.agg (pcells llP).toArray) := by kernel_rfl
/-- What address answers. -/
def Adrd (w : World) (x : UInt8) (l : List UInt8) (e : Ending) (w' : World) : Prop := ∃ s n c, e = .returned (.tuple #[.int .u8 (x.toNat : Int), .slice s n c]) ∧ Src w' s n c (bcells l) ∧ Below w.heap.size w w'
set_option maxHeartbeats 2000000 in
theorem kaddress_any (a : Ad) (w : World) : Calls Tryz.prog 119 #[(Value.agg (acells a).toArray)] w (Adrd w (adrE a) (adrL a)) := by
  have HC := contains_any llP a
  have HF := fam_any a
  have RA := Row.new w 23 (acells a)
  unfold adrE adrL
  obtain ⟨b, hb⟩ : ∃ b, con llP a = b := ⟨_, rfl⟩
  rw [hb] at HC ⊢
  have hf := famA_or a
  generalize famA a = f at *
  clear hb
  cases b
  · rcases hf with rfl | rfl
    all_goals
      go_enter Tryz.func119, Tryz.ntmps119
      go_wp2_with (first
        | (go_at_call 46; have kk := b1; refine (HF _).mono ?_; rintro e w2 ⟨rfl, b2⟩; have r2 := r1.below b2 r1.lt; have B2 := bt B1 b2)
        | (have kk := b1; refine ldA (.tmp 1) (by rfl) rfl w.heap.size 0 a rfl r1.range ?_)
        | (go_at_call 131; refine (HC _).mono ?_; rintro e w1 ⟨rfl, b1⟩; have r1 := rS.below b1 rS.lt; have B1 := bt bS b1)
        | (refine ldA (.tmp 1) (by rfl) rfl w.heap.size 0 a rfl rS.range ?_)
        | (refine ldP (.tmp 4) (by rfl) rfl gA 0 llP rfl pS.range ?_)
        | (refine stP0 (.tmp 4) (.tmp 6) (by rfl) rfl gA llP (pcells zeroP) (pcells_len _) rfl llE pA ?_; intro wS gS pS; have rS := (RA.below a3 RA.lt).grown gS (fun e => by have := Option.some.inj e; simp at a1; omega); have bS := (bt (ba w (.cells (acells a).toArray 23)) a3).grown gS (bt (ba w (.cells (acells a).toArray 23)) a3).size (fun k hk => by cases hk; simp at a1; omega))
        | (refine alG infoPz (by rfl) rfl ?_; intro gA wA a1 a2 a3 pA))
      go_quiet (fail)
      go_wp2
      go_ret2
    · exact ⟨_, _, _, rfl, (r2.below (below_drewN (Below.refl _ _) _) r2.lt).partA 12 _ (by omega), bt B2 (below_drewN (Below.refl _ _) _)⟩
    · exact ⟨_, _, _, rfl, (r2.below (below_drewN (Below.refl _ _) _) r2.lt).partA 0 _ (by omega), bt B2 (below_drewN (Below.refl _ _) _)⟩
  · go_enter Tryz.func119, Tryz.ntmps119
    go_wp2_with (first
      | (go_at_call 131; refine (HC _).mono ?_; rintro e w1 ⟨rfl, b1⟩; have r1 := rS.below b1 rS.lt; have B1 := bt bS b1)
      | (refine ldA (.tmp 1) (by rfl) rfl w.heap.size 0 a rfl rS.range ?_)
      | (refine ldP (.tmp 4) (by rfl) rfl gA 0 llP rfl pS.range ?_)
      | (refine stP0 (.tmp 4) (.tmp 6) (by rfl) rfl gA llP (pcells zeroP) (pcells_len _) rfl llE pA ?_; intro wS gS pS; have rS := (RA.below a3 RA.lt).grown gS (fun e => by have := Option.some.inj e; simp at a1; omega); have bS := (bt (ba w (.cells (acells a).toArray 23)) a3).grown gS (bt (ba w (.cells (acells a).toArray 23)) a3).size (fun k hk => by cases hk; simp at a1; omega))
      | (refine alG infoPz (by rfl) rfl ?_; intro gA wA a1 a2 a3 pA))
    go_quiet (fail)
    go_wp2
    go_ret2
    exact ⟨_, _, _, rfl, (r1.below (below_drewN (Below.refl _ _) _) r1.lt).partA 8 _ (by omega), bt B1 (below_drewN (Below.refl _ _) _)⟩
theorem whom_any (t : Tl) (w : World) : Calls Tryz.prog 102 #[.agg (tcells t).toArray] w (Adrd w (whmE t.key) (whmL t.key)) := by
  have RT := Row.new w 45 (tcells t)
  have T8 : (tcells t)[8]? = some (.bool t.all) := rfl
  have HA := kaddress_any t.ad
  have rA := RT.rAd
  have HE : Hid (whmE t.key = if t.all = true then 0 else adrE t.ad) := (rfl : _ = _)
  have HL : Hid (whmL t.key = if t.all = true then [] else adrL t.ad) := (rfl : _ = _)
  rw [HE.out, HL.out]
  clear HE HL
  generalize t.all = b at *
  generalize adrE t.ad = x at *
  generalize adrL t.ad = y at *
  cases b
  · go_enter Tryz.func102, Tryz.ntmps102
    go_wp2_with (first
      | (go_at_call 119; refine (HA _).mono ?_; rintro e w1 ⟨s, n, c, rfl, s1, b1⟩)
      | (refine ldA (.tmp 6) (by rfl) rfl w.heap.size 17 t.ad rfl rA ?_))
    go_ret2
    exact ⟨s, n, c, rfl, s1, bt (ba _ _) b1⟩
  · go_enter Tryz.func102, Tryz.ntmps102
    go_wp2
    go_ret2
    exact ⟨none, 0, 0, rfl, Src.nil _, ba _ _⟩
theorem arrA : Tryz.prog.arrayLen 23 = 16 := by kernel_rfl
theorem elemA : Tryz.prog.elem 23 = 5 := by kernel_rfl
theorem run_slA (b o l h : Nat) (h1 : l ≤ h) (h2 : h ≤ 16) (hl : l < 16) (w : World) : (Instr.sliceAt 23 (.pointer (some ⟨b, o, none⟩)) (some (.int .i64 (l : Int))) (some (.int .i64 (h : Int))) none).run Tryz.prog w = .ok (.slice (some ⟨b, o + l, none⟩) (h - l) (16 - l)) w := by
  obtain ⟨i0, hi, hz0, hz1, hz2⟩ := info_parts info5
  rw [run_sliceAt_array_lh w _ _ (by rw [arrA, elemA]; exact Tryz.underlying23) .i64 .i64 (l : Int) (h : Int) (by omega) (by omega) (by rw [arrA]; omega), arrA, elemA]
  simp [sizeOf, typeInfo, hi, hz1, slicedAt, Addr.add_mid, show ¬ (16 = l) by omega]
theorem ySA {ops : Array Oper} {S : World → Prop} {op : Oper} {a : Act} (x lo hi : Operand) (b o l h : Nat) (zl zh : Int) (hw : Region.wanted op (yielded ops a.tmps) = true) (ho : op.op = .slice 23 x (some lo) (some hi) none) (hx : a.eval x = .pointer (some ⟨b, o, none⟩)) (hlo : a.eval lo = .int .i64 zl) (hhi : a.eval hi = .int .i64 zh) (el : zl = l) (eh : zh = h) (h1 : l ≤ h) (h2 : h ≤ 16) (hl : l < 16) : YieldsIf Tryz.prog ops S op (.slice (some ⟨b, o + l, none⟩) (h - l) (16 - l)) a :=
  .inl ⟨hw, fun w _ => by
    subst el eh
    have := run_slA b o l h h1 h2 hl w
    unfold execOp
    simp only [ho, Option.map, hx, hlo, hhi, Sem.run_bind, this, Result.andThen_ok, Sem.run_pure]⟩
/-- What prefix answers. -/
def Pfxd (w : World) (x : UInt8) (m : Nat) (l : List UInt8) (e : Ending) (w' : World) : Prop := ∃ s n c, e = .returned (.tuple #[.int .u8 (x.toNat : Int), .int .u8 (m : Int), .slice s n c]) ∧ Src w' s n c (bcells l) ∧ Below w.heap.size w w'
theorem Row.partP {w : World} {g : Nat} {p : Pf} (hr : Row w g 40 (pcells p)) (o n : Nat) (c : Nat) (ho : o + n ≤ 16) : Src w (some ⟨g, o, none⟩) n c (bcells ((p.a.l.drop o).take n)) := by
  have e : pcells p = bcells (p.a.l.take o) ++ (bcells ((p.a.l.drop o).take n) ++ (bcells ((p.a.l.drop o).drop n) ++ [.int .i64 p.n])) := by
    rw [← List.append_assoc (bcells ((p.a.l.drop o).take n)), ← bcells_append, List.take_append_drop, ← List.append_assoc, ← bcells_append, List.take_append_drop]; rfl
  rw [e] at hr
  exact hr.part c (by rw [bcells_length, List.length_take, p.a.len]; omega) (by rw [bcells_length, List.length_take, List.length_drop, p.a.len]; omega)
theorem kprefix_any (p : Pf) (w : World) (h0 : 0 ≤ p.n) (h1 : p.n ≤ 128) : Calls Tryz.prog 124 #[(Value.agg (pcells p).toArray)] w (Pfxd w (pfxE p) (pfxN p) (pfxL p)) := by
  have RP := Row.new w 40 (pcells p)
  have HF := pfam_any p
  have hf := famP_or2 p
  have h4 : famP p = 4 → 96 ≤ p.n := fun h => by unfold famP at h; split at h <;> simp_all
  obtain ⟨N, hN⟩ : ∃ N : Nat, p.n = N := ⟨p.n.toNat, by omega⟩
  have HC : Hid (∀ W, Row W w.heap.size 40 (pcells p) → W.cell? ⟨w.heap.size, 16, none⟩ = some (.int .i64 (N : Int))) := fun W r => by
    have := LP.n (w := W) (b := w.heap.size) (o := 0) (p := p) r.range
    rw [Nat.zero_add, hN] at this
    exact this
  unfold pfxE pfxN pfxL
  rw [hN] at h0 h1 h4
  rw [hN, Int.toNat_natCast]
  clear hN
  generalize famP p = f at *
  rcases hf with rfl | rfl
  · have h96 := h4 rfl
    have hM : 96 ≤ N := by omega
    obtain ⟨M, rfl⟩ : ∃ M, N = 96 + M := ⟨N - 96, by omega⟩
    clear h4
    go_enter Tryz.func124, Tryz.ntmps124
    go_wp2_with (first
      | (go_at_call 48; refine (HF _).mono ?_; rintro e w1 ⟨rfl, b1⟩; have r1 := RP.below b1 RP.lt; have c16 := HC.out _ r1)
      | (refine ldP (.tmp 1) (by rfl) rfl w.heap.size 0 p rfl RP.range ?_))
    have rX := r1.below (bd w1) r1.lt
    have bX := bt (bt (ba w (.cells (pcells p).toArray 40)) b1) (bd w1)
    have q1 : IntKind.i64.wrap ((IntKind.i64.wrap (96 + (M : Int) + 7)).tdiv 8) = (((96 + M + 7) / 8 : Nat) : Int) := by rw [IntWalk.i64_in (96 + (M : Int) + 7) (by omega), IntWalk.i64_quo _ _ (by omega)]; omega
    have q2 : IntKind.u8.wrap (IntKind.i64.wrap (96 + (M : Int) - IntKind.i64.wrap 96)) = ((M : Nat) : Int) := by rw [IntWalk.i64_in 96 (by omega), IntWalk.i64_in _ (by omega), IntKind.wrap_u8]; omega
    clear c16 r1
    refine wp_region_noPanic ?_
    refine wp_region_held_drew (S := fun W => Row W w.heap.size 40 (pcells p)) (by kernel_rfl) (rX) (fun hHeld => ?_)
    refine tA 0 ?_
    refine tA 1 ?_
    refine tA 2 ?_ (hv := by intro w hSw; (try dsimp only at hSw); have hm := HC.out _ hSw; go_simp <;> with_reducible rfl)
    refine tA 3 ?_
    refine tA 4 ?_
    refine tA 5 ?_
    refine tA 6 ?_
    refine tA 7 ?_
    refine tA 8 ?_
    refine tA 9 ?_
    refine tA 10 ?_ (hv := by intro w hSw; (try dsimp only at hSw); have hm := HC.out _ hSw; go_simp <;> with_reducible rfl)
    refine tA 11 ?_
    refine tA 12 ?_
    refine tL 13 rfl (ySA (.tmp 16) (.tmp 17) (.tmp 21) w.heap.size 0 12 ((96 + M + 7) / 8) _ _ (by rfl) rfl rfl rfl rfl rfl (by first | exact q1 | omega) (by omega) (by omega) (by omega)) ?_
    refine tA 14 ?_
    refine tA 15 ?_
    refine tA 16 ?_
    refine dN ?_
    refine NoPanic.normal ?_
    go_wp2
    go_ret3
    exact ⟨_, _, _, by first | rfl | (rw [q2]; rfl) | (simp; done), rX.partP 12 _ _ (by omega), bX⟩
  · go_enter Tryz.func124, Tryz.ntmps124
    go_wp2_with (first
      | (go_at_call 48; refine (HF _).mono ?_; rintro e w1 ⟨rfl, b1⟩; have r1 := RP.below b1 RP.lt; have c16 := HC.out _ r1)
      | (refine ldP (.tmp 1) (by rfl) rfl w.heap.size 0 p rfl RP.range ?_))
    have rX := r1.below (bd w1) r1.lt
    have bX := bt (bt (ba w (.cells (pcells p).toArray 40)) b1) (bd w1)
    have q1 : IntKind.i64.wrap ((IntKind.i64.wrap ((N : Int) + 7)).tdiv 8) = (((N + 7) / 8 : Nat) : Int) := by rw [IntWalk.i64_in ((N : Int) + 7) (by omega), IntWalk.i64_quo _ _ (by omega)]; omega
    have q2 : IntKind.u8.wrap (IntKind.i64.wrap ((N : Int) - IntKind.i64.wrap 0)) = ((N : Nat) : Int) := by rw [IntWalk.i64_in 0 (by omega), IntWalk.i64_in _ (by omega), IntKind.wrap_u8]; omega
    clear c16 r1
    refine wp_region_noPanic ?_
    refine wp_region_held_drew (S := fun W => Row W w.heap.size 40 (pcells p)) (by kernel_rfl) (rX) (fun hHeld => ?_)
    refine tA 0 ?_
    refine tA 1 ?_
    refine tA 2 ?_ (hv := by intro w hSw; (try dsimp only at hSw); have hm := HC.out _ hSw; go_simp <;> with_reducible rfl)
    refine tA 3 ?_
    refine tA 4 ?_
    refine tA 5 ?_
    refine tA 6 ?_
    refine tA 7 ?_
    refine tA 8 ?_
    refine tA 9 ?_
    refine tA 10 ?_ (hv := by intro w hSw; (try dsimp only at hSw); have hm := HC.out _ hSw; go_simp <;> with_reducible rfl)
    refine tA 11 ?_
    refine tA 12 ?_
    refine tL 13 rfl (ySA (.tmp 16) (.tmp 17) (.tmp 21) w.heap.size 0 0 ((N + 7) / 8) _ _ (by rfl) rfl rfl rfl rfl rfl (by first | exact q1 | omega) (by omega) (by omega) (by omega)) ?_
    refine tA 14 ?_
    refine tA 15 ?_
    refine tA 16 ?_
    refine dN ?_
    refine NoPanic.normal ?_
    go_wp2
    go_ret3
    exact ⟨_, _, _, by first | rfl | (rw [q2]; rfl) | (simp; done), rX.partP 0 _ _ (by omega), bX⟩
end Go.Proofs.YtdibjgcokebfbaaGreat

namespace Go.Proofs.YtdibjgcokebfbaaGreat
open Go.RowKit
set_option linter.unusedSimpArgs false
/-! ### The document's Family -/
theorem fam_cut (a : Ad) (i : Nat) : (cutA a 96).l[i]? = if i < 12 then a.l[i]? else if i < 16 then some 0 else none := by
  simp only [cutA, List.getElem?_mapIdx]
  by_cases h : i < 12
  · rw [if_pos h]
    cases hb : a.l[i]? with
    | none => rfl
    | some b => rw [Option.map_some, keepB_all (by omega)]
  · rw [if_neg h]
    by_cases h' : i < 16
    · rw [if_pos h', List.getElem?_eq_getElem (by rw [a.len]; exact h'), Option.map_some, show 96 - 8 * i = 0 by omega, keepB_none]
    · rw [if_neg h', List.getElem?_eq_none (by rw [a.len]; omega)]; rfl
def famC (i : Nat) : UInt8 := if i < 10 then 0 else 255
theorem map_get (i : Nat) : mapA.l[i]? = if i < 12 then some (famC i) else if i < 16 then some 0 else none := by
  match i with
  | 0 | 1 | 2 | 3 | 4 | 5 | 6 | 7 | 8 | 9 | 10 | 11 | 12 | 13 | 14 | 15 => rfl
  | i + 16 => rw [if_neg (by omega), if_neg (by omega)]; rfl
theorem fam_yes {a : Ad} (h : ∀ i, i < 12 → a.l[i]? = some (famC i)) : famA a = 4 := by
  unfold famA
  rw [if_pos]
  apply List.ext_getElem?
  intro i
  rw [fam_cut, map_get]
  split
  · exact h i ‹_›
  · rfl
theorem fam_no {a : Ad} {i : Nat} {b : UInt8} (hi : i < 12) (h : a.l[i]? = some b) (hb : b ≠ famC i) : famA a = 6 := by
  unfold famA
  rw [if_neg]
  intro e
  have := congrArg (fun l => l[i]?) e
  rw [fam_cut, map_get, if_pos hi, if_pos hi, h] at this
  exact hb (Option.some.inj this)
theorem rfamily_any (a : Ad) (w : World) : Calls Tryz.prog 52 #[(Value.agg (acells a).toArray)] w (Gives w (.int .i64 (famA a))) := by
  have hb := ba w (.cells (acells a).toArray 23)
  have hA := LA.new w a 23
  have HN : Hid (∀ i b, i < 12 → a.l[i]? = some b → b ≠ famC i → famA a = 6) := fun i b => fam_no
  have HY : Hid ((∀ i, i < 12 → a.l[i]? = some (famC i)) → famA a = 4) := fam_yes
  generalize famA a = f at *
  go_enter Tryz.func52, Tryz.ntmps52
  go_wp2
  refine name_world (R := fun W => Code.wp _ _ _ _ W) (P := fun W => Below w.heap.size w W ∧ LA W w.heap.size 0 a) _ ⟨hb, hA⟩ ?_
  clear hb hA
  rintro X ⟨hb, hA⟩
  go_loopw [3] (fun i wr => ∃ j : Nat, j ≤ 12 ∧ i = .int .i64 j ∧ (∀ i, i < j → a.l[i]? = some (famC i)) ∧ X = wr) (fun i _ => 12 - (intOf i).toNat)
  case atStart => exact ⟨0, by omega, rfl, (fun i hi => by omega), rfl⟩
  case round =>
    obtain ⟨j, hj, rfl, hok, rfl⟩ := hrel
    by_cases hlt : j < 12
    · obtain ⟨b, hbj⟩ : ∃ b, a.l[j]? = some b := ⟨_, List.getElem?_eq_getElem (by rw [a.len]; omega)⟩
      have hc : X.cell? ⟨w.heap.size, j, none⟩ = some (.int .u8 b.toNat) := by simpa using hA j _ (bcells_get hbj)
      have HB : Hid (b ≠ famC j → f = 6) := HN.out j b hlt hbj
      have HE : Hid (b = famC j → ∀ i, i < j + 1 → a.l[i]? = some (famC i)) := fun h i hi => by
        by_cases hij : i < j
        · exact hok i hij
        · obtain rfl : i = j := by omega
          rw [hbj, h]
      clear hok hbj hA HN HY
      have hz := b.toNat_lt
      by_cases h10 : j < 10
      · have e0 : famC j = 0 := by unfold famC; rw [if_pos h10]
        rw [e0] at HB HE
        by_cases hb0 : b = 0
        · have e1 : ((b.toNat : Int) != 0) = false := by subst hb0; rfl
          have h10' : ¬ (10 : Int) ≤ (j : Int) := by omega
          go_wp2
          go_roundw
          case rel => exact ⟨j + 1, by omega, by go_num, HE.out hb0, trivial⟩
          case measure => simp [intOf]; omega
        · have e1 : ((b.toNat : Int) != 0) = true := by
            have : b.toNat ≠ 0 := fun h => hb0 (UInt8.toNat.inj h)
            simpa using this
          have e6 := HB.out hb0
          clear HB HE
          go_wp2
          go_ret
          exact ⟨by first | rfl | (rw [e6]; rfl), hb⟩
      · have e0 : famC j = 255 := by unfold famC; rw [if_neg h10]
        rw [e0] at HB HE
        by_cases hb0 : b = 255
        · have e1 : ((b.toNat : Int) != 255) = false := by subst hb0; rfl
          go_wp2
          go_roundw
          case rel => exact ⟨j + 1, by omega, by go_num, HE.out hb0, trivial⟩
          case measure => simp [intOf]; omega
        · have e1 : ((b.toNat : Int) != 255) = true := by
            have : b.toNat ≠ 255 := fun h => hb0 (UInt8.toNat.inj h)
            simp only [bne_iff_ne, ne_eq]; omega
          have e6 := HB.out hb0
          clear HB HE
          go_wp2
          go_ret
          exact ⟨by first | rfl | (rw [e6]; rfl), hb⟩
    · obtain rfl : j = 12 := by omega
      have e4 := HY.out hok
      go_wp2
      go_ret
      exact ⟨by first | rfl | (rw [e4]; rfl), hb⟩
end Go.Proofs.YtdibjgcokebfbaaGreat

namespace Go.Proofs.YtdibjgcokebfbaaGreat
open Go.RowKit
set_option linter.unusedSimpArgs false
set_option maxRecDepth 20000
/-- The first eight bytes of a link-local address. -/
def locC (i : Nat) : UInt8 := if i = 0 then 254 else if i = 1 then 128 else 0
theorem cut64_get (a : Ad) (i : Nat) : (cutA a 64).l[i]? = if i < 8 then a.l[i]? else if i < 16 then some 0 else none := by
  simp only [cutA, List.getElem?_mapIdx]
  by_cases h : i < 8
  · rw [if_pos h]
    cases hb : a.l[i]? with
    | none => rfl
    | some b => rw [Option.map_some, keepB_all (by omega)]
  · rw [if_neg h]
    by_cases h' : i < 16
    · rw [if_pos h', List.getElem?_eq_getElem (by rw [a.len]; exact h'), Option.map_some, show 64 - 8 * i = 0 by omega, keepB_none]
    · rw [if_neg h', List.getElem?_eq_none (by rw [a.len]; omega)]; rfl
theorem llA_get (i : Nat) : llA.l[i]? = if i < 8 then some (locC i) else if i < 16 then some 0 else none := by
  match i with
  | 0 | 1 | 2 | 3 | 4 | 5 | 6 | 7 | 8 | 9 | 10 | 11 | 12 | 13 | 14 | 15 => rfl
  | i + 16 => rw [if_neg (by omega), if_neg (by omega)]; rfl
theorem chk_llP : chk llP = 0 := by kernel_rfl
theorem loc_yes {a : Ad} (h : ∀ i, i < 8 → a.l[i]? = some (locC i)) : con llP a = true := by
  unfold con
  rw [chk_llP, decide_eq_true rfl, Bool.true_and, decide_eq_true_eq]
  apply List.ext_getElem?
  intro i
  show (cutA a 64).l[i]? = llA.l[i]?
  rw [cut64_get, llA_get]
  split
  · exact h i ‹_›
  · rfl
theorem loc_no {a : Ad} {i : Nat} {b : UInt8} (hi : i < 8) (h : a.l[i]? = some b) (hb : b ≠ locC i) : con llP a = false := by
  unfold con
  rw [chk_llP, decide_eq_true rfl, Bool.true_and, decide_eq_false_iff_not]
  intro e
  have := congrArg (fun l => l[i]?) e
  have e2 : (cutA a 64).l[i]? = llA.l[i]? := this
  rw [cut64_get, llA_get, if_pos hi, if_pos hi, h] at e2
  exact hb (Option.some.inj e2)
set_option maxHeartbeats 8000000 in
theorem rlocal_any (a : Ad) (w : World) : Calls Tryz.prog 58 #[(Value.agg (acells a).toArray)] w (Gives w (.bool (con llP a))) := by
  have hb := ba w (.cells (acells a).toArray 23)
  have hA := LA.new w a 23
  have HN : Hid (∀ i b, i < 8 → a.l[i]? = some b → b ≠ locC i → con llP a = false) := fun i b => loc_no
  have HY : Hid ((∀ i, i < 8 → a.l[i]? = some (locC i)) → con llP a = true) := loc_yes
  generalize con llP a = f at *
  go_enter Tryz.func58, Tryz.ntmps58
  go_wp2
  refine name_world (R := fun W => Code.wp _ _ _ _ W) (P := fun W => Below w.heap.size w W ∧ LA W w.heap.size 0 a) _ ⟨hb, hA⟩ ?_
  clear hb hA
  rintro X ⟨hb, hA⟩
  go_loopw [3] (fun i wr => ∃ j : Nat, j ≤ 8 ∧ i = .int .i64 j ∧ (∀ i, i < j → a.l[i]? = some (locC i)) ∧ X = wr) (fun i _ => 8 - (intOf i).toNat)
  case atStart => exact ⟨0, by omega, rfl, (fun i hi => by omega), rfl⟩
  case round =>
    obtain ⟨j, hj, rfl, hok, rfl⟩ := hrel
    by_cases hlt : j < 8
    · obtain ⟨b, hbj⟩ : ∃ b, a.l[j]? = some b := ⟨_, List.getElem?_eq_getElem (by rw [a.len]; omega)⟩
      have hc : X.cell? ⟨w.heap.size, j, none⟩ = some (.int .u8 b.toNat) := by simpa using hA j _ (bcells_get hbj)
      have HB : Hid (b ≠ locC j → f = false) := HN.out j b hlt hbj
      have HE : Hid (b = locC j → ∀ i, i < j + 1 → a.l[i]? = some (locC i)) := fun h i hi => by
        by_cases hij : i < j
        · exact hok i hij
        · obtain rfl : i = j := by omega
          rw [hbj, h]
      clear hok hbj hA HN HY hj
      have hz := b.toNat_lt
      rcases (show j = 0 ∨ j = 1 ∨ j = 2 ∨ j = 3 ∨ j = 4 ∨ j = 5 ∨ j = 6 ∨ j = 7 by omega) with rfl | rfl | rfl | rfl | rfl | rfl | rfl | rfl
      · by_cases hb0 : b = 254
        · have e1 : ((b.toNat : Int) != 254) = false := by subst hb0; rfl
          have e6 := HE.out hb0
          clear HB HE
          go_wp2
          go_roundw
          case rel => exact ⟨1, by omega, rfl, e6, trivial⟩
          case measure => simp [intOf]
        · have e1 : ((b.toNat : Int) != 254) = true := by
            have : b.toNat ≠ 254 := fun h => hb0 (UInt8.toNat.inj h)
            simp only [bne_iff_ne, ne_eq]; omega
          have e6 := HB.out hb0
          clear HB HE
          go_wp2
          go_ret
          exact ⟨by first | rfl | (rw [e6]; rfl), hb⟩
      · by_cases hb0 : b = 128
        · have e1 : ((b.toNat : Int) != 128) = false := by subst hb0; rfl
          have e6 := HE.out hb0
          clear HB HE
          go_wp2
          go_roundw
          case rel => exact ⟨2, by omega, rfl, e6, trivial⟩
          case measure => simp [intOf]
        · have e1 : ((b.toNat : Int) != 128) = true := by
            have : b.toNat ≠ 128 := fun h => hb0 (UInt8.toNat.inj h)
            simp only [bne_iff_ne, ne_eq]; omega
          have e6 := HB.out hb0
          clear HB HE
          go_wp2
          go_ret
          exact ⟨by first | rfl | (rw [e6]; rfl), hb⟩
      · by_cases hb0 : b = 0
        · have e1 : ((b.toNat : Int) != 0) = false := by subst hb0; rfl
          have e6 := HE.out hb0
          clear HB HE
          go_wp2
          go_roundw
          case rel => exact ⟨3, by omega, rfl, e6, trivial⟩
          case measure => simp [intOf]
        · have e1 : ((b.toNat : Int) != 0) = true := by
            have : b.toNat ≠ 0 := fun h => hb0 (UInt8.toNat.inj h)
            simp only [bne_iff_ne, ne_eq]; omega
          have e6 := HB.out hb0
          clear HB HE
          go_wp2
          go_ret
          exact ⟨by first | rfl | (rw [e6]; rfl), hb⟩
      · by_cases hb0 : b = 0
        · have e1 : ((b.toNat : Int) != 0) = false := by subst hb0; rfl
          have e6 := HE.out hb0
          clear HB HE
          go_wp2
          go_roundw
          case rel => exact ⟨4, by omega, rfl, e6, trivial⟩
          case measure => simp [intOf]
        · have e1 : ((b.toNat : Int) != 0) = true := by
            have : b.toNat ≠ 0 := fun h => hb0 (UInt8.toNat.inj h)
            simp only [bne_iff_ne, ne_eq]; omega
          have e6 := HB.out hb0
          clear HB HE
          go_wp2
          go_ret
          exact ⟨by first | rfl | (rw [e6]; rfl), hb⟩
      · by_cases hb0 : b = 0
        · have e1 : ((b.toNat : Int) != 0) = false := by subst hb0; rfl
          have e6 := HE.out hb0
          clear HB HE
          go_wp2
          go_roundw
          case rel => exact ⟨5, by omega, rfl, e6, trivial⟩
          case measure => simp [intOf]
        · have e1 : ((b.toNat : Int) != 0) = true := by
            have : b.toNat ≠ 0 := fun h => hb0 (UInt8.toNat.inj h)
            simp only [bne_iff_ne, ne_eq]; omega
          have e6 := HB.out hb0
          clear HB HE
          go_wp2
          go_ret
          exact ⟨by first | rfl | (rw [e6]; rfl), hb⟩
      · by_cases hb0 : b = 0
        · have e1 : ((b.toNat : Int) != 0) = false := by subst hb0; rfl
          have e6 := HE.out hb0
          clear HB HE
          go_wp2
          go_roundw
          case rel => exact ⟨6, by omega, rfl, e6, trivial⟩
          case measure => simp [intOf]
        · have e1 : ((b.toNat : Int) != 0) = true := by
            have : b.toNat ≠ 0 := fun h => hb0 (UInt8.toNat.inj h)
            simp only [bne_iff_ne, ne_eq]; omega
          have e6 := HB.out hb0
          clear HB HE
          go_wp2
          go_ret
          exact ⟨by first | rfl | (rw [e6]; rfl), hb⟩
      · by_cases hb0 : b = 0
        · have e1 : ((b.toNat : Int) != 0) = false := by subst hb0; rfl
          have e6 := HE.out hb0
          clear HB HE
          go_wp2
          go_roundw
          case rel => exact ⟨7, by omega, rfl, e6, trivial⟩
          case measure => simp [intOf]
        · have e1 : ((b.toNat : Int) != 0) = true := by
            have : b.toNat ≠ 0 := fun h => hb0 (UInt8.toNat.inj h)
            simp only [bne_iff_ne, ne_eq]; omega
          have e6 := HB.out hb0
          clear HB HE
          go_wp2
          go_ret
          exact ⟨by first | rfl | (rw [e6]; rfl), hb⟩
      · by_cases hb0 : b = 0
        · have e1 : ((b.toNat : Int) != 0) = false := by subst hb0; rfl
          have e6 := HE.out hb0
          clear HB HE
          go_wp2
          go_roundw
          case rel => exact ⟨8, by omega, rfl, e6, trivial⟩
          case measure => simp [intOf]
        · have e1 : ((b.toNat : Int) != 0) = true := by
            have : b.toNat ≠ 0 := fun h => hb0 (UInt8.toNat.inj h)
            simp only [bne_iff_ne, ne_eq]; omega
          have e6 := HB.out hb0
          clear HB HE
          go_wp2
          go_ret
          exact ⟨by first | rfl | (rw [e6]; rfl), hb⟩
    · obtain rfl : j = 8 := by omega
      have e4 := HY.out hok
      go_wp2
      go_ret
      exact ⟨by first | rfl | (rw [e4]; rfl), hb⟩
set_option maxHeartbeats 4000000 in
theorem raddr7_any (a : Ad) (w : World) : Calls Tryz.prog 34 #[(Value.agg (acells a).toArray)] w (Adrd w (adrE a) (adrL a)) := by
  have HC := rlocal_any a
  have HF := rfamily_any a
  have RA := Row.new w 23 (acells a)
  have BA := ba w (.cells (acells a).toArray 23)
  unfold adrE adrL
  obtain ⟨b, hb⟩ : ∃ b, con llP a = b := ⟨_, rfl⟩
  rw [hb] at HC ⊢
  have hf := famA_or a
  generalize famA a = f at *
  clear hb
  cases b
  · rcases hf with rfl | rfl
    all_goals
      go_enter Tryz.func34, Tryz.ntmps34
      go_wp2_with (first
        | (go_at_call 52; have kk := b1; refine (HF _).mono ?_; rintro e w2 ⟨rfl, b2⟩; have r2 := r1.below b2 r1.lt; have B2 := bt B1 b2)
        | (have kk := b1; refine ldA (.tmp 1) (by rfl) rfl w.heap.size 0 a rfl r1.range ?_)
        | (go_at_call 58; refine (HC _).mono ?_; rintro e w1 ⟨rfl, b1⟩; have r1 := RA.below b1 RA.lt; have B1 := bt BA b1)
        | (refine ldA (.tmp 1) (by rfl) rfl w.heap.size 0 a rfl RA.range ?_))
      go_quiet (fail)
      go_wp2
      go_ret2
    · exact ⟨_, _, _, rfl, (r2.below (below_drewN (Below.refl _ _) _) r2.lt).partA 12 _ (by omega), bt B2 (below_drewN (Below.refl _ _) _)⟩
    · exact ⟨_, _, _, rfl, (r2.below (below_drewN (Below.refl _ _) _) r2.lt).partA 0 _ (by omega), bt B2 (below_drewN (Below.refl _ _) _)⟩
  · go_enter Tryz.func34, Tryz.ntmps34
    go_wp2_with (first
      | (go_at_call 58; refine (HC _).mono ?_; rintro e w1 ⟨rfl, b1⟩; have r1 := RA.below b1 RA.lt; have B1 := bt BA b1)
      | (refine ldA (.tmp 1) (by rfl) rfl w.heap.size 0 a rfl RA.range ?_))
    go_quiet (fail)
    go_wp2
    go_ret2
    exact ⟨_, _, _, rfl, (r1.below (below_drewN (Below.refl _ _) _) r1.lt).partA 8 _ (by omega), bt B1 (below_drewN (Below.refl _ _) _)⟩
end Go.Proofs.YtdibjgcokebfbaaGreat

namespace Go.Proofs.YtdibjgcokebfbaaGreat
open Go.RowKit
set_option linter.unusedSimpArgs false
set_option maxRecDepth 20000

section
variable {ops : Array Oper} {op : Oper} {a : Act} {w : World} {K : Act → World → Prop} {Q : Exit → Act → World → Prop} {E : Prop}
theorem sBS {T U : TypeId} {n : Nat} (parts : List (Nat × Operand)) (xs : List Value) (hw : Region.wanted op (yielded ops a.tmps) = true) (ho : op.op = .buildSlice T n parts.toArray)
    (hrun : ∀ w, (Instr.buildSlice T n (parts.map fun p => (p.1, a.eval p.2)).toArray).run Tryz.prog w = .ok (.slice (some ⟨w.heap.size, 0, none⟩) n n) (w.alloc (.cells xs.toArray U))) (hx : xs.length = n)
    (h : ∀ g W, Src W (some ⟨g, 0, none⟩) n n xs → Below w.heap.size w W → K (a.put op.dst (.slice (some ⟨g, 0, none⟩) n n)) W) : if Region.wanted op (yielded ops a.tmps) = true then Oper.wp Tryz.prog op a w K Q else E := by
  rw [if_pos hw]
  unfold Oper.wp execOp
  simp only [ho, List.map_toArray, Sem.run_bind, hrun, Result.andThen_ok, Sem.run_pure]
  have := new_src_of w xs.toArray U
  simp only [List.size_toArray] at this
  rw [hx] at this
  exact h _ _ this (ba _ _)
end
theorem rb16_1 (x : Int) (w : World) : (Instr.buildSlice 125 1 #[(0, .int .u16 x)]).run Tryz.prog w = .ok (.slice (some ⟨w.heap.size, 0, none⟩) 1 1) (w.alloc (.cells #[.int .u16 x] 36)) := by kernel_rfl
theorem rb16_2 (x y : Int) (w : World) : (Instr.buildSlice 125 2 #[(0, .int .u16 x), (1, .int .u16 y)]).run Tryz.prog w = .ok (.slice (some ⟨w.heap.size, 0, none⟩) 2 2) (w.alloc (.cells #[.int .u16 x, .int .u16 y] 36)) := by kernel_rfl
theorem rb16_3 (x y z : Int) (w : World) : (Instr.buildSlice 125 3 #[(0, .int .u16 x), (1, .int .u16 y), (2, .int .u16 z)]).run Tryz.prog w = .ok (.slice (some ⟨w.heap.size, 0, none⟩) 3 3) (w.alloc (.cells #[.int .u16 x, .int .u16 y, .int .u16 z] 36)) := by kernel_rfl
theorem rb8_2 (x y : Int) (w : World) : (Instr.buildSlice 46 2 #[(0, .int .u8 x), (1, .int .u8 y)]).run Tryz.prog w = .ok (.slice (some ⟨w.heap.size, 0, none⟩) 2 2) (w.alloc (.cells #[.int .u8 x, .int .u8 y] 5)) := by kernel_rfl
theorem rb8_4 (x y z u : Int) (w : World) : (Instr.buildSlice 46 4 #[(0, .int .u8 x), (1, .int .u8 y), (2, .int .u8 z), (3, .int .u8 u)]).run Tryz.prog w = .ok (.slice (some ⟨w.heap.size, 0, none⟩) 4 4) (w.alloc (.cells #[.int .u8 x, .int .u8 y, .int .u8 z, .int .u8 u] 5)) := by kernel_rfl
theorem rbS_1 (p : Part) (w : World) : (Instr.buildSlice 27 1 #[(0, .slice p.a p.n p.c)]).run Tryz.prog w = .ok (.slice (some ⟨w.heap.size, 0, none⟩) 1 1) (w.alloc (.cells (svcells [p]).toArray 46)) := by kernel_rfl
theorem rbS_2 (p q : Part) (w : World) : (Instr.buildSlice 27 2 #[(0, .slice p.a p.n p.c), (1, .slice q.a q.n q.c)]).run Tryz.prog w = .ok (.slice (some ⟨w.heap.size, 0, none⟩) 2 2) (w.alloc (.cells (svcells [p, q]).toArray 46)) := by kernel_rfl
theorem rbS_3 (p q r : Part) (w : World) : (Instr.buildSlice 27 3 #[(0, .slice p.a p.n p.c), (1, .slice q.a q.n q.c), (2, .slice r.a r.n r.c)]).run Tryz.prog w = .ok (.slice (some ⟨w.heap.size, 0, none⟩) 3 3) (w.alloc (.cells (svcells [p, q, r]).toArray 46)) := by kernel_rfl
/-- Numbers as cells. -/
def n16 (ns : List Nat) : List Value := ns.map fun (n : Nat) => Value.int .u16 (n : Int)
def n8 (ns : List Nat) : List Value := ns.map fun (n : Nat) => Value.int .u8 (n : Int)
theorem put16_n (a : Option Addr) (n c : Nat) (l : List UInt8) (b : Option Addr) (m d : Nat) (ns : List Nat) (w : World) (hs : Src w a n c (bcells l)) (ht : Src w b m d (n16 ns)) (hns : ∀ x ∈ ns, x < 65536) (hn : l.length ≤ 1000) (hm : ns.length ≤ 10) :
    Calls Tryz.prog 89 #[.slice a n c, .slice b m d] w (Laid w (l ++ ns.flatMap hw)) := by
  have e : hcells (ns.map UInt16.ofNat) = n16 ns := by
    unfold hcells n16
    rw [List.map_map]
    refine List.map_congr_left fun x hx => ?_
    have := hns x hx
    simp; omega
  have e2 : (ns.map UInt16.ofNat).flatMap be16 = ns.flatMap hw := by rw [List.flatMap_map]; rfl
  have h1 := hs.blen
  have h2 := ht.len
  have := put16_any a n c l b m d (ns.map UInt16.ofNat) w hs (by rw [e]; exact ht) (by simp [n16] at h2; omega)
  rw [e2] at this
  exact this
theorem put8_n (a : Option Addr) (n c : Nat) (l : List UInt8) (b : Option Addr) (m d : Nat) (ns : List Nat) (w : World) (hs : Src w a n c (bcells l)) (ht : Src w b m d (n8 ns)) (hns : ∀ x ∈ ns, x < 256) (hn : l.length ≤ 1000) (hm : ns.length ≤ 10) :
    Calls Tryz.prog 90 #[.slice a n c, .slice b m d] w (Laid w (l ++ ns.map UInt8.ofNat)) := by
  have e : bcells (ns.map UInt8.ofNat) = n8 ns := by
    unfold bcells n8
    rw [List.map_map]
    refine List.map_congr_left fun x hx => ?_
    have := hns x hx
    simp; omega
  have h1 := hs.blen
  have h2 := ht.len
  exact put8_any a n c l b m d (ns.map UInt8.ofNat) w hs (by rw [e]; exact ht) (by simp [n8] at h2; omega)
theorem putb_1 (a : Option Addr) (n c : Nat) (l : List UInt8) (b : Option Addr) (p : Part) (w : World) (hs : Src w a n c (bcells l)) (ht : Src w b 1 1 (svcells [p])) (hp : Src w p.a p.n p.c (bcells p.l)) (hn : l.length ≤ 1000) (hm : p.l.length ≤ 1000) :
    Calls Tryz.prog 91 #[.slice a n c, .slice b 1 1] w (Laid w (l ++ p.l)) := by
  have h1 := hs.blen
  have e : flat [p] = p.l := by simp [flat]
  have := putb_any a n c l b 1 1 [p] w hs ht (fun q hq => by simp at hq; subst hq; exact hp) (by decide) (by rw [e]; omega)
  rwa [e] at this
theorem putb_2 (a : Option Addr) (n c : Nat) (l : List UInt8) (b : Option Addr) (p q : Part) (w : World) (hs : Src w a n c (bcells l)) (ht : Src w b 2 2 (svcells [p, q])) (hp : Src w p.a p.n p.c (bcells p.l)) (hq : Src w q.a q.n q.c (bcells q.l)) (hn : l.length ≤ 1000) (hm : p.l.length ≤ 1000) (hk : q.l.length ≤ 1000) :
    Calls Tryz.prog 91 #[.slice a n c, .slice b 2 2] w (Laid w (l ++ p.l ++ q.l)) := by
  have h1 := hs.blen
  have e : flat [p, q] = p.l ++ q.l := by simp [flat]
  have := putb_any a n c l b 2 2 [p, q] w hs ht (fun r hr => by simp at hr; rcases hr with rfl | rfl; exact hp; exact hq) (by decide) (by rw [e, List.length_append]; omega)
  rwa [e, ← List.append_assoc] at this
theorem putb_3 (a : Option Addr) (n c : Nat) (l : List UInt8) (b : Option Addr) (p q r : Part) (w : World) (hs : Src w a n c (bcells l)) (ht : Src w b 3 3 (svcells [p, q, r])) (hp : Src w p.a p.n p.c (bcells p.l)) (hq : Src w q.a q.n q.c (bcells q.l)) (hr : Src w r.a r.n r.c (bcells r.l)) (hn : l.length ≤ 1000) (hm : p.l.length ≤ 1000) (hk : q.l.length ≤ 1000) (hj : r.l.length ≤ 1000) :
    Calls Tryz.prog 91 #[.slice a n c, .slice b 3 3] w (Laid w (l ++ p.l ++ q.l ++ r.l)) := by
  have h1 := hs.blen
  have e : flat [p, q, r] = p.l ++ (q.l ++ r.l) := by simp [flat]
  have := putb_any a n c l b 3 3 [p, q, r] w hs ht (fun x hx => by simp at hx; rcases hx with rfl | rfl | rfl; exact hp; exact hq; exact hr) (by decide) (by rw [e, List.length_append, List.length_append]; omega)
  rwa [e, ← List.append_assoc, ← List.append_assoc] at this
/-! ### Where and source -/
theorem where_any (t : Tl) (w : World) (h : t.all = true ∨ (0 ≤ t.pr.d.n ∧ t.pr.d.n ≤ 128)) : Calls Tryz.prog 103 #[.agg (tcells t).toArray] w (Pfxd w (whrE t.key) (whrN t.key) (whrL t.key)) := by
  have RT := Row.new w 45 (tcells t)
  have T8 : (tcells t)[8]? = some (.bool t.all) := rfl
  have HA : t.all = false → ∀ W, Calls Tryz.prog 124 #[(Value.agg (pcells t.pr.d).toArray)] W (Pfxd W (pfxE t.pr.d) (pfxN t.pr.d) (pfxL t.pr.d)) := fun hf W => by
    rcases h with h | h
    · rw [h] at hf; cases hf
    · exact kprefix_any t.pr.d W h.1 h.2
  have rA := RT.rPr.d
  have HE : Hid (whrE t.key = if t.all = true then 0 else pfxE t.pr.d) := (rfl : _ = _)
  have HN : Hid (whrN t.key = if t.all = true then 0 else pfxN t.pr.d) := (rfl : _ = _)
  have HL : Hid (whrL t.key = if t.all = true then [] else pfxL t.pr.d) := (rfl : _ = _)
  rw [HE.out, HL.out, HN.out]
  clear HE HL HN h
  generalize t.all = b at *
  generalize pfxE t.pr.d = x at *
  generalize pfxN t.pr.d = z at *
  generalize pfxL t.pr.d = y at *
  cases b
  · have HA' := HA rfl
    clear HA
    go_enter Tryz.func103, Tryz.ntmps103
    go_wp2_with (first
      | (go_at_call 124; refine (HA' _).mono ?_; rintro e w1 ⟨s, n, c, rfl, s1, b1⟩)
      | (refine ldP (.tmp 8) (by rfl) rfl w.heap.size 33 t.pr.d rfl rA ?_))
    go_ret3
    exact ⟨s, n, c, rfl, s1, bt (ba _ _) b1⟩
  · go_enter Tryz.func103, Tryz.ntmps103
    go_wp2
    go_ret3
    exact ⟨none, 0, 0, rfl, Src.nil _, ba _ _⟩
theorem pfxL_len (p : Pf) : (pfxL p).length ≤ 16 := by
  unfold pfxL
  split
  · rw [List.length_take, List.length_drop, p.a.len]; omega
  · rw [List.length_take, p.a.len]; omega
theorem ksource_any (p : Pr) (w : World) (h0 : 0 ≤ p.s.n) (h1 : p.s.n ≤ 128) : Calls Tryz.prog 104 #[(Value.agg (qcells p).toArray)] w (Laid w (srcL p)) := by
  have RP := Row.new w 42 (qcells p)
  have HS := specific_any p
  have HX := fun W => kprefix_any p.s W h0 h1
  have hN : pfxN p.s < 256 := by unfold pfxN; split <;> omega
  have hL := pfxL_len p.s
  unfold srcL
  generalize spec p = b at *
  generalize pfxE p.s = x at *
  generalize pfxN p.s = z at *
  generalize pfxL p.s = y at *
  clear h0 h1
  cases b
  · go_enter Tryz.func104, Tryz.ntmps104
    go_wp2_with (first
      | (go_at_call 125; refine (HS _).mono ?_; rintro e w1 ⟨rfl, b1⟩)
      | (refine ldQ (.tmp 1) (by rfl) rfl w.heap.size 0 p rfl RP.range ?_))
    go_ret
    exact ⟨none, 0, rfl, World.ownsRow_nil _ _ _ _, bt (ba _ _) b1⟩
  · have HY : Hid (y.length ≤ 16) := hL
    have HZ : Hid (z < 256) := hN
    have hz : (z : Int) < 256 := by omega
    clear hL hN
    go_enter Tryz.func104, Tryz.ntmps104
    go_wp2_with (first
      | (go_at_call 122; have kk := b4; refine (kwithin_any 128 a4 _ c4 _ _ s4 (by decide) (by have := HY.out; simp; omega)).mono ?_; rintro e w5 ⟨a5, c5, rfl, o5, b5⟩)
      | (go_at_call 91; have kk := b3; refine (putb_1 a3 _ c3 _ (some ⟨w3.heap.size, 0, none⟩) ⟨s, n, c, y⟩ _ (s3.alloc _) (new_src_of w3 #[.slice s n c] 46) (sy3.alloc _) (by simp) (by have := HY.out; show y.length ≤ 1000; omega)).mono ?_; rintro e w4 ⟨a4, c4, rfl, o4, b4⟩; have s4 := own_srcP o4)
      | (go_at_call 90; have kk := b2; refine (put8_n none 0 0 [] (some ⟨w2.heap.size, 0, none⟩) 1 1 [z] _ (Src.nil _) (new_src_of w2 #[.int .u8 (z : Int)] 5) (by intro q hq; simp at hq; subst hq; exact HZ.out) (by simp) (by simp)).mono ?_; rintro e w3 ⟨a3, c3, rfl, o3, b3⟩; have s3 := own_srcP o3; have sy3 := (s2.alloc (.cells #[.int .u8 (z : Int)] 5)).below b3 (s2.alloc _).lt)
      | (go_at_call 124; have kk := b1; refine (HX _).mono ?_; rintro e w2 ⟨s, n, c, rfl, s2, b2⟩)
      | (have kk := b1; refine ldP (.tmp 10) (by rfl) rfl w.heap.size 17 p.s rfl (LQ.s (RP.below b1 RP.lt).range) ?_)
      | (go_at_call 125; refine (HS _).mono ?_; rintro e w1 ⟨rfl, b1⟩)
      | (refine ldQ (.tmp 1) (by rfl) rfl w.heap.size 0 p rfl RP.range ?_))
    go_ret
    have B := bt (bt (bt (bt (bt (ba w (.cells (qcells p).toArray 42)) b1) b2) (ba w2 (.cells #[.int .u8 (z : Int)] 5))) b3) (ba w3 (.cells #[.slice s n c] 46))
    have B4 := bt B b4
    exact ⟨a5, c5, rfl, own_le o5 B4.size, bt B4 b5⟩
end Go.Proofs.YtdibjgcokebfbaaGreat
