/-
  Import: the entries of others.
-/
import Derived.Test.YtadnnjngflphjaaBG
namespace Go.Proofs.Ytadnnjngflphjaa
open Go.RowKit Go.Maps Go.Shelf
set_option linter.unusedSimpArgs false
set_option linter.unusedVariables false
set_option maxRecDepth 20000
/-- One entry of others: where there is none of its pair. -/
def impS (F : List Hd) (e : En) : List Hd := if (fnd F e.p).isSome = false ∧ Fa.chkQ e.p = 0 then putF F ⟨e, true⟩ else F
def impF (F : List Hd) (l : List En) : List Hd := l.foldl impS F
theorem imp_step {F : List Hd} {l : List En} {j : Nat} (h : j < l.length) : impF F (l.take (j + 1)) = impS (impF F (l.take j)) l[j] := by
  unfold impF
  rw [List.take_succ_eq_append_getElem h, List.foldl_append]
  rfl
theorem putF_new {F : List Hd} {n : Hd} (h : fnd F (hp n) = none) : putF F n = F ++ [n] := by
  unfold putF
  rw [if_neg]
  intro h2
  obtain ⟨x, hx, hb⟩ := List.any_eq_true.1 h2
  exact fnd_none.1 h x hx (qB_iff.1 hb)
theorem impS_put {F : List Hd} {e : En} (h : fnd F e.p = none) (hc : Fa.chkQ e.p = 0) : impS F e = putF F ⟨e, true⟩ := if_pos ⟨by rw [h]; rfl, hc⟩
theorem impS_some {F : List Hd} {e : En} {x : Hd} (h : fnd F e.p = some x) : impS F e = F := if_neg (fun h2 => by rw [h] at h2; cases h2.1)
theorem impS_bad {F : List Hd} {e : En} (hc : Fa.chkQ e.p ≠ 0) : impS F e = F := if_neg (fun h2 => hc h2.2)
theorem impS_le (F : List Hd) (e : En) : F.length ≤ (impS F e).length ∧ (impS F e).length ≤ F.length + 1 := by
  unfold impS
  split
  · rename_i h
    have h1 : fnd F (hp ⟨e, true⟩) = none := by
      cases hf : fnd F e.p with
      | none => exact hf
      | some x => rw [hf] at h; cases h.1
    rw [putF_new h1, List.length_append]
    simp
  · omega
theorem impF_le : ∀ (l : List En) (F : List Hd), F.length ≤ (impF F l).length ∧ (impF F l).length ≤ F.length + l.length
  | [], F => ⟨Nat.le_refl _, Nat.le_refl _⟩
  | e :: l, F => by
    have h1 := impS_le F e
    have h2 := impF_le l (impS F e)
    show _ ≤ (impF (impS F e) l).length ∧ (impF (impS F e) l).length ≤ _
    rw [List.length_cons]
    omega
theorem plus64 {x : Int} (h0 : 0 ≤ x) (h1 : x ≤ 1000000) : wrap64 (x + 1) = x + 1 := by unfold wrap64; omega
set_option maxHeartbeats 16000000 in
theorem import_any {w : World} {b k : Nat} {n : Int} {F : List Hd} (h : Kn w b k n F) (ad : Option Addr) (c : Nat) (l : List En) (hl : ∀ W, KT w W b k → EsW W ad l) (hf : ∀ e ∈ l, wfQ e.p) (hn : F.length + l.length ≤ 100000) :
    Calls Try.prog 13 #[.pointer (some ⟨k, 0, none⟩), .slice ad l.length c] w fun e w' => e = .returned (.int .i64 (((impF F l).length : Int) - (F.length : Int))) ∧ Kn w' b k n (impF F l) ∧ KT w w' b k := by
  go_enter Try.func13, Try.ntmps13
  go_wp2_with fail
  go_loopw [14, 5] (fun v u wr => ∃ j : Nat, j ≤ l.length ∧ v = .int .i64 j ∧ u = .int .i64 (((impF F (l.take j)).length : Int) - (F.length : Int)) ∧ Kn wr b k n (impF F (l.take j)) ∧ KT w wr b k) (fun v _ _ => l.length - (intOf v).toNat)
  case atStart => exact ⟨0, Nat.zero_le _, rfl, by simp [impF], h, KT.of (Below.refl _ _) h.lb⟩
  case round =>
    clear h
    obtain ⟨j, hj, rfl, rfl, hK, hT⟩ := hrel
    by_cases hlt : j < l.length
    · rcases (hl wr hT).lies with h0 | ⟨g, o, rfl, hg, hcs⟩
      · rw [h0] at hlt; simp at hlt
      have hq : LE wr g (o + j * 51) l[j] := hcs j l[j] (List.getElem?_eq_getElem hlt)
      have hw := hf l[j] (List.getElem_mem hlt)
      have hji : (j : Int) < (l.length : Int) := by omega
      have hw64 : wrap64 ((j : Int) + 1) = (j : Int) + 1 := by unfold wrap64; omega
      have HJ : Hid (j + 1 ≤ l.length) := hlt
      have HM : Hid (l.length - ((j : Int) + 1).toNat < l.length - ((j : Int)).toNat) := meas hlt
      have HT : Hid (impF F (l.take (j + 1)) = impS (impF F (l.take j)) (l[j]'hlt)) := imp_step hlt
      have hle := impF_le (l.take j) F
      have hGl : (impF F (l.take j)).length < 1000000 := by rw [List.length_take] at hle; omega
      have hN : wrap64 ((((impF F (l.take j)).length : Int) - (F.length : Int)) + 1) = (((impF F (l.take j)).length : Int) - (F.length : Int)) + 1 := plus64 (by omega) (by omega)
      clear hcs hf hl hn hle
      have HB : Hid (b ≤ wr.heap.size) := hK.lb
      generalize (l[j]'hlt) = e at *
      generalize impF F (l.take j) = G at *
      have hC := Fa.checkQ_any e.p
      have HP : Hid (fnd G e.p = none → Fa.chkQ e.p = 0 → impS G e = putF G ⟨e, true⟩) := fun h1 h2 => impS_put h1 h2
      have HX : Hid (∀ x, fnd G e.p = some x → impS G e = G) := fun x h1 => impS_some h1
      have HY : Hid (Fa.chkQ e.p ≠ 0 → impS G e = G) := fun h1 => impS_bad h1
      have HL : Hid (fnd G e.p = none → (((putF G ⟨e, true⟩).length : Int) - (F.length : Int)) = (((G.length : Int) - (F.length : Int)) + 1)) := fun h1 => by rw [putF_new h1, List.length_append]; simp; omega
      have hAt := fun (W : World) (hW : Kn W b k n G) => at_any hW e.p hw
      obtain ⟨v0, ho⟩ : ∃ o, fnd G e.p = o := ⟨_, rfl⟩
      generalize Fa.chkQ e.p = ck at *
      cases v0 with
      | some x =>
        have HF : Hid (impF F (l.take (j + 1)) = G) := by rw [HT.out]; exact HX.out x ho
        clear HP HX HY HL HT hN
        go_wp2_with (first
            | (have kk := q8; (with_reducible refine stH (.tmp 8) (.tmp 23) ?_ ?_ g8 x zeroH ?_ ?_ ?_ ?_); (focus rfl); (focus rfl); (focus rfl); (focus first | rfl | (rw [ho]; rfl)); (focus exact q8); intro W9 gr8 r8; have k9 := grown_below gr8 b8 h8 b8.size; have K9 := K8.below k9; have r79 := r78.below k9 r78.lt; have T9 := T8.trans (KT.of k9 HB8); have HB9 := K9.lb; clear q8)
            | (have kk := r78; (with_reducible refine alG infoHz ?_ ?_ ?_); (focus rfl); (focus rfl); intro g8 V8 h8 l8 b8 q8)
            | (have kk := r7; go_at_call 30; refine (hAt _ K7).mono ?_; rintro e8 W8 ⟨rfl, k8⟩; have K8 := K7.below k8; have r78 := r7.below k8 r7.lt; have T8 := T7.trans (KT.of k8 HB7); have HB8 := K8.lb)
            | ((with_reducible refine ldQ (.tmp 20) ?_ ?_ g7 0 e.p ?_ ?_ ?_); (focus rfl); (focus rfl); (focus rfl); (focus exact r7.en.q))
            | (have kk := q7; (with_reducible refine stE (.tmp 7) (.tmp 17) ?_ ?_ g7 e zeroE ?_ ?_ ?_ ?_); (focus rfl); (focus rfl); (focus rfl); (focus rfl); (focus exact q7); intro W7 gr7 r7; have k7 := grown_below gr7 b7 h7 b7.size; have K7 := hK.below k7; have T7 := hT.trans (KT.of k7 HB.out); have HB7 := K7.lb; clear q7)
            | (have kk := hK; (with_reducible refine alG infoEz ?_ ?_ ?_); (focus rfl); (focus rfl); intro g7 V7 h7 l7 b7 q7)
            | (have kk := hK; (with_reducible refine ldE (.tmp 16) ?_ ?_ g (o + j * 51) e ?_ ?_ ?_); (focus rfl); (focus rfl); (focus rfl); (focus exact hq)))
        go_roundw
        case rel => exact ⟨j + 1, HJ.out, by first | (rw [hw64]; rfl) | rfl | go_num, (by rw [HF.out]), by rw [HF.out]; exact K9, T9⟩
        case measure => first | (rw [hw64]; simp only [intOf]; exact HM.out) | (simp only [intOf]; exact HM.out)
      | none =>
        by_cases hck : ck = 0
        · have hck' : (ck == 0) = true := by simpa using hck
          have HF : Hid (impF F (l.take (j + 1)) = putF G ⟨e, true⟩) := by rw [HT.out]; exact HP.out ho hck
          have HLL : Hid ((((putF G ⟨e, true⟩).length : Int) - (F.length : Int)) = (((G.length : Int) - (F.length : Int)) + 1)) := HL.out ho
          clear HP HX HY HL HT hck
          go_wp2_with (first
            | (have kk := r7A; go_at_call 31; refine (put_any KA ⟨e, true⟩ hw hGl).mono ?_; rintro eB WB ⟨rfl, KB, TB⟩)
            | ((with_reducible refine bdG (T := 67) (v := hV ⟨e, true⟩) [(0, .tmp 33), (1, .const (.bool true))] ?_ ?_ ?_ ?_); (focus rfl); (focus rfl); (focus exact bdH1 _ _ _))
            | (have kk := r7A; (with_reducible refine ldE (.tmp 7) ?_ ?_ g7 0 e ?_ ?_ ?_); (focus rfl); (focus rfl); (focus rfl); (focus exact r7A.en))
            | (have kk := r79; go_at_call 29; refine (hC _).mono ?_; rintro eA WA ⟨rfl, kA⟩; have KA := K9.below kA; have r7A := r79.below kA r79.lt; have TA := T9.trans (KT.of kA HB9))
            | ((with_reducible refine ldQ (.tmp 27) ?_ ?_ g7 0 e.p ?_ ?_ ?_); (focus rfl); (focus rfl); (focus rfl); (focus exact r79.en.q))
            | (have kk := q8; (with_reducible refine stH (.tmp 8) (.tmp 23) ?_ ?_ g8 zeroH zeroH ?_ ?_ ?_ ?_); (focus rfl); (focus rfl); (focus rfl); (focus first | rfl | (rw [ho]; rfl)); (focus exact q8); intro W9 gr8 r8; have k9 := grown_below gr8 b8 h8 b8.size; have K9 := K8.below k9; have r79 := r78.below k9 r78.lt; have T9 := T8.trans (KT.of k9 HB8); have HB9 := K9.lb; clear q8)
            | (have kk := r78; (with_reducible refine alG infoHz ?_ ?_ ?_); (focus rfl); (focus rfl); intro g8 V8 h8 l8 b8 q8)
            | (have kk := r7; go_at_call 30; refine (hAt _ K7).mono ?_; rintro e8 W8 ⟨rfl, k8⟩; have K8 := K7.below k8; have r78 := r7.below k8 r7.lt; have T8 := T7.trans (KT.of k8 HB7); have HB8 := K8.lb)
            | ((with_reducible refine ldQ (.tmp 20) ?_ ?_ g7 0 e.p ?_ ?_ ?_); (focus rfl); (focus rfl); (focus rfl); (focus exact r7.en.q))
            | (have kk := q7; (with_reducible refine stE (.tmp 7) (.tmp 17) ?_ ?_ g7 e zeroE ?_ ?_ ?_ ?_); (focus rfl); (focus rfl); (focus rfl); (focus rfl); (focus exact q7); intro W7 gr7 r7; have k7 := grown_below gr7 b7 h7 b7.size; have K7 := hK.below k7; have T7 := hT.trans (KT.of k7 HB.out); have HB7 := K7.lb; clear q7)
            | (have kk := hK; (with_reducible refine alG infoEz ?_ ?_ ?_); (focus rfl); (focus rfl); intro g7 V7 h7 l7 b7 q7)
            | (have kk := hK; (with_reducible refine ldE (.tmp 16) ?_ ?_ g (o + j * 51) e ?_ ?_ ?_); (focus rfl); (focus rfl); (focus rfl); (focus exact hq)))
          go_roundw
          case rel => exact ⟨j + 1, HJ.out, by first | (rw [hw64]; rfl) | rfl | go_num, (by rw [HF.out]; exact congrArg (Value.int .i64) (hN.trans HLL.out.symm)), by rw [HF.out]; exact KB, (TA.trans TB)⟩
          case measure => first | (rw [hw64]; simp only [intOf]; exact HM.out) | (simp only [intOf]; exact HM.out)
        · have hck' : (ck == 0) = false := by simpa using hck
          have HF : Hid (impF F (l.take (j + 1)) = G) := by rw [HT.out]; exact HY.out hck
          clear HP HX HY HL HT hck hN
          go_wp2_with (first
            | (have kk := r79; go_at_call 29; refine (hC _).mono ?_; rintro eA WA ⟨rfl, kA⟩; have KA := K9.below kA; have r7A := r79.below kA r79.lt; have TA := T9.trans (KT.of kA HB9))
            | ((with_reducible refine ldQ (.tmp 27) ?_ ?_ g7 0 e.p ?_ ?_ ?_); (focus rfl); (focus rfl); (focus rfl); (focus exact r79.en.q))
            | (have kk := q8; (with_reducible refine stH (.tmp 8) (.tmp 23) ?_ ?_ g8 zeroH zeroH ?_ ?_ ?_ ?_); (focus rfl); (focus rfl); (focus rfl); (focus first | rfl | (rw [ho]; rfl)); (focus exact q8); intro W9 gr8 r8; have k9 := grown_below gr8 b8 h8 b8.size; have K9 := K8.below k9; have r79 := r78.below k9 r78.lt; have T9 := T8.trans (KT.of k9 HB8); have HB9 := K9.lb; clear q8)
            | (have kk := r78; (with_reducible refine alG infoHz ?_ ?_ ?_); (focus rfl); (focus rfl); intro g8 V8 h8 l8 b8 q8)
            | (have kk := r7; go_at_call 30; refine (hAt _ K7).mono ?_; rintro e8 W8 ⟨rfl, k8⟩; have K8 := K7.below k8; have r78 := r7.below k8 r7.lt; have T8 := T7.trans (KT.of k8 HB7); have HB8 := K8.lb)
            | ((with_reducible refine ldQ (.tmp 20) ?_ ?_ g7 0 e.p ?_ ?_ ?_); (focus rfl); (focus rfl); (focus rfl); (focus exact r7.en.q))
            | (have kk := q7; (with_reducible refine stE (.tmp 7) (.tmp 17) ?_ ?_ g7 e zeroE ?_ ?_ ?_ ?_); (focus rfl); (focus rfl); (focus rfl); (focus rfl); (focus exact q7); intro W7 gr7 r7; have k7 := grown_below gr7 b7 h7 b7.size; have K7 := hK.below k7; have T7 := hT.trans (KT.of k7 HB.out); have HB7 := K7.lb; clear q7)
            | (have kk := hK; (with_reducible refine alG infoEz ?_ ?_ ?_); (focus rfl); (focus rfl); intro g7 V7 h7 l7 b7 q7)
            | (have kk := hK; (with_reducible refine ldE (.tmp 16) ?_ ?_ g (o + j * 51) e ?_ ?_ ?_); (focus rfl); (focus rfl); (focus rfl); (focus exact hq)))
          go_roundw
          case rel => exact ⟨j + 1, HJ.out, by first | (rw [hw64]; rfl) | rfl | go_num, (by rw [HF.out]), by rw [HF.out]; exact KA, TA⟩
          case measure => first | (rw [hw64]; simp only [intOf]; exact HM.out) | (simp only [intOf]; exact HM.out)
    · have hje : j = l.length := Nat.le_antisymm hj (Nat.not_lt.1 hlt)
      subst hje
      have hji : ¬ (l.length : Int) < (l.length : Int) := Int.lt_irrefl _
      rw [List.take_length] at hK ⊢
      clear hlt hj hl hf hn
      go_wp2_with fail
      go_ret
      exact ⟨rfl, hK, hT⟩
end Go.Proofs.Ytadnnjngflphjaa
