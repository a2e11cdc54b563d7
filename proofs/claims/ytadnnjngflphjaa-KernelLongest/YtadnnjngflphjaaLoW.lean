/-
  The walk of KernelLongest.
-/
import Derived.Test.YtadnnjngflphjaaBK
namespace Go.Proofs.Ytadnnjngflphjaa
open Go.RowKit Go.Maps Go.Shelf
set_option linter.unusedSimpArgs false
set_option linter.unusedVariables false
set_option maxRecDepth 20000
theorem long_live (a1 : Option Addr) (c1 : Nat) (m : Nat) (src dst : Ad) (w : World) (h : 150 < m) : Calls Try.prog 4 #[.slice a1 m c1, (Value.agg (acells src).toArray), (Value.agg (acells dst).toArray)] w (Gives w (.bool true)) := by
  have d1 : decide ((150 : Int) < (m : Int)) = true := by simp; omega
  have bX := bt (ba w (.cells (acells src).toArray 31)) (ba _ (.cells (acells dst).toArray 31))
  clear h
  go_enter Try.func4, Try.ntmps4
  go_upto_region 2 with fail
  refine name_world (R := fun W => Code.wp _ _ _ _ W) (P := fun W => Below w.heap.size w W) _ bX ?_
  clear bX
  rintro X bX
  go_wp2_with (go_at_call 8; refine (live_any _).mono ?_; rintro e' w9 ⟨rfl, k⟩)
  go_ret
  exact ⟨rfl, bt bX k⟩
theorem import_new {w w1 : World} {b k : Nat} (h : Kn w1 b k 0 []) (ad : Option Addr) (c : Nat) (l : List En) (hl : ∀ W, KT w1 W b k → EsW W ad l) (hf : ∀ e ∈ l, wfQ e.p) (hn : l.length ≤ 100000) :
    Calls Try.prog 13 #[.pointer (some ⟨k, 0, none⟩), .slice ad l.length c] w1 fun e w' => e = .returned (.int .i64 ((impF [] l).length : Nat)) ∧ Kn w' b k 0 (impF [] l) ∧ KT w1 w' b k := by
  refine (import_any h ad c l hl hf (by simpa using hn)).mono ?_
  rintro e w' ⟨rfl, h1⟩
  exact ⟨by simp, h1⟩
set_option maxHeartbeats 64000000 in
theorem long_none (ad : Option Addr) (c : Nat) (l : List En) (src dst : Ad) (w : World) (m : EsW w ad l) (f : ∀ x ∈ l, wfQ x.p) (h1 : l.length ≤ 150) (ho : lookR (impF [] l) src dst = none) : Calls Try.prog 4 #[.slice ad l.length c, (Value.agg (acells src).toArray), (Value.agg (acells dst).toArray)] w (Gives w (.bool true)) := by
  have d1 : decide ((150 : Int) < (l.length : Int)) = false := by simp; omega
  have hb1 := impF_b l (F := []) (by simp)
  have hck := impF_chk l (F := []) (by simp)
  have hle := (impF_le l []).2
  have HF : Hid ((∀ x ∈ impF [] l, x.b = true) ∧ (impF [] l).length ≤ 150) := ⟨hb1, by simp at hle; omega⟩
  clear hb1 hle
  have r0 := Row.new w 31 (acells src)
  have b0 := ba w (.cells (acells src).toArray 31)
  have r1 := Row.new (w.alloc (.cells (acells src).toArray 31)) 31 (acells dst)
  have b1 := ba (w.alloc (.cells (acells src).toArray 31)) (.cells (acells dst).toArray 31)
  have e1 : (w.alloc (.cells (acells src).toArray 31)).heap.size = w.heap.size + 1 := World.size_alloc ..
  rw [e1] at r1
  have rs0 := r0.below b1 r0.lt
  have bX := bt b0 b1
  clear r0 b0 b1 e1
  go_enter Try.func4, Try.ntmps4
  go_upto_region 1 with fail
  refine name_world (R := fun W => Code.wp _ _ _ _ W) (P := fun W => Below w.heap.size w W ∧ Row W w.heap.size 31 (acells src) ∧ Row W (w.heap.size + 1) 31 (acells dst)) _ ⟨bX, rs0, r1⟩ ?_
  clear bX rs0 r1
  rintro X ⟨bX, rs0, rd0⟩
  have mX := m.below bX
  clear m
  go_upto_region 7 with (first
    | (have kk := K1; go_at_call 13; refine (import_new (w := w) K1 ad c l (fun W hW => mX.kt B1 hb hW) f (by omega)).mono ?_; rintro e W2 ⟨rfl, K2, T2⟩; have rs := T2.row K1 (rs0.below B1 rs0.lt) (by decide); have rd := T2.row K1 (rd0.below B1 rd0.lt) (by decide); have B2 := bt bX (T2.base B1 hb))
    | (go_at_call 9; refine (new_ex X).mono ?_; rintro e w1 ⟨k, b, rfl, K1, B1, hb⟩))
  have hlook := lookup_any K2 src dst
  rw [ho] at hlook
  have hnd := K2.nd
  have hall := sel_all HF.out.1
  have hls : (sel true (impF [] l)).length = (impF [] l).length := by rw [hall.2, List.length_map]
  have hs0 : (sel false (impF [] l)).length = 0 := by rw [hall.1]; rfl
  have HA : Hid (sel true (impF [] l) = (impF [] l).map Hd.e) := hall.2
  have hl1 : (impF [] l).length ≤ 1000000 := by have := HF.out.2; omega
  clear ho hall hnd mX f d1 K1 B1 T2 rs0 rd0 bX hck h1 hb
  generalize impF [] l = F at *
  go_upto_region 9 with (first
    | (have kk := K9; go_at_call 18; refine (imp_own K9 hl1 hls).mono ?_; rintro e W10 ⟨a11, c11, A, rfl, hAl, hA2, hAA, hO, b10⟩)
    | (have kk := q9; (with_reducible refine stE (.tmp 9) (.tmp 29) ?_ ?_ g9 zeroE zeroE ?_ ?_ ?_ ?_); (focus rfl); (focus rfl); (focus (repeat (first | with_reducible refine ev_ne ?_ rfl | with_reducible refine ev_no ?_ | (with_reducible refine ev_eq (n := 108) ?_ rfl; repeat (first | with_reducible refine sz_put ?_ | with_reducible refine sz_no ?_ | rfl)) | rfl))); (focus (repeat (first | with_reducible refine ev_ne ?_ rfl | with_reducible refine ev_no ?_ | (with_reducible refine ev_eq (n := 108) ?_ rfl; repeat (first | with_reducible refine sz_put ?_ | with_reducible refine sz_no ?_ | rfl)) | rfl))); (focus exact q9); intro W9 gr9 r9; have k9 := bt c8 (grown_below gr9 b9 h9 b9.size); have K9 := K2.below k9; clear q9)
    | (have kk := c8; (with_reducible refine alG infoEz ?_ ?_ ?_); (focus rfl); (focus rfl); intro g9 V9 h9 l9 b9 q9)
    | (have kk := K2; go_at_call 19; refine hlook.mono ?_; rintro e X8 ⟨rfl, c8⟩)
    | (refine ldA (.tmp 4) rfl rfl _ _ src rfl rs.range ?_)
    | (refine ldA (.tmp 5) rfl rfl _ _ dst rfl rd.range ?_))
  have K10 := K9.below b10
  have k10 := bt k9 b10
  have B10 := bt B2 k10
  have rs10 := rs.below k10 rs.lt
  have rd10 := rd.below k10 rd.lt
  have r9' := r9.below b10 r9.lt
  generalize W9.heap.size = BA at *
  clear hlook K2 K9 rs rd r9 b10 k10 B2 k9 c8 b9 h9 l9 gr9 hls
  go_upto_region 11 with (first
    | (have kk := K10; go_at_call 17; refine (list_len K10 hl1 hs0).mono ?_; rintro e W11 ⟨a12, c12, rfl, b11⟩))
  have B11 := bt B10 b11
  have rs11 := rs10.below b11 rs10.lt
  have rd11 := rd10.below b11 rd10.lt
  have r911 := r9'.below b11 r9'.lt
  have hO11 := own_below hO b11
  clear K10 B10 rs10 rd10 r9' hO b11
  rw [← hAl] at hO11 ⊢
  clear hAl
  have hEQ : ∀ V, (binOp .eql 37 (eV zeroE) (eV zeroE)).run Try.prog V = .ok (.bool true) V := fun V => by rw [run_eqlE, eqEn_self]
  have gEQ := fun op a b V => guardE op a b zeroE zeroE V
  clear HF HA hs0 hl1 hA2 hAA hO11 rs11 rd11
  go_wp2_with fail
  go_loopw [12] (fun v wr => v = .int .i64 0 ∧ W11 = wr) (fun _ _ => 0)
  case atStart => exact ⟨rfl, rfl⟩
  case round =>
    obtain ⟨rfl, rfl⟩ := hrel
    have d2 : (if decide ((0 : Int) < (A.length : Int)) = true then false else false) = false := by split <;> rfl
    by_cases h0 : (0 : Int) < (A.length : Int)
    all_goals
      go_wp2_with (first
      | (go_at_call 8; refine (live_any _).mono ?_; rintro e' w9 ⟨rfl, k⟩)
      | (have kk := r911; (with_reducible refine ldE (.tmp 9) ?_ ?_ g9 0 zeroE ?_ ?_ ?_); (focus rfl); (focus rfl); (focus (repeat (first | with_reducible refine ev_ne ?_ rfl | with_reducible refine ev_no ?_ | (with_reducible refine ev_eq (n := 108) ?_ rfl; repeat (first | with_reducible refine sz_put ?_ | with_reducible refine sz_no ?_ | rfl)) | rfl))); (focus exact r911.en))
      | ((with_reducible refine bdG (T := 37) (v := eV zeroE) [] ?_ ?_ ?_ ?_); (focus rfl); (focus rfl); (focus exact bdE0 _)))
      go_ret
      exact ⟨rfl, bt B11 k⟩
set_option maxHeartbeats 64000000 in
theorem long_some (ad : Option Addr) (c : Nat) (l : List En) (src dst : Ad) (w : World) (m : EsW w ad l) (f : ∀ x ∈ l, wfQ x.p) (h1 : l.length ≤ 150) {x : Hd} (ho : lookR (impF [] l) src dst = some x) : Calls Try.prog 4 #[.slice ad l.length c, (Value.agg (acells src).toArray), (Value.agg (acells dst).toArray)] w (Gives w (.bool true)) := by
  have d1 : decide ((150 : Int) < (l.length : Int)) = false := by simp; omega
  have hb1 := impF_b l (F := []) (by simp)
  have hck := impF_chk l (F := []) (by simp)
  have hle := (impF_le l []).2
  have HF : Hid ((∀ x ∈ impF [] l, x.b = true) ∧ (impF [] l).length ≤ 150) := ⟨hb1, by simp at hle; omega⟩
  clear hb1 hle
  have r0 := Row.new w 31 (acells src)
  have b0 := ba w (.cells (acells src).toArray 31)
  have r1 := Row.new (w.alloc (.cells (acells src).toArray 31)) 31 (acells dst)
  have b1 := ba (w.alloc (.cells (acells src).toArray 31)) (.cells (acells dst).toArray 31)
  have e1 : (w.alloc (.cells (acells src).toArray 31)).heap.size = w.heap.size + 1 := World.size_alloc ..
  rw [e1] at r1
  have rs0 := r0.below b1 r0.lt
  have bX := bt b0 b1
  clear r0 b0 b1 e1
  go_enter Try.func4, Try.ntmps4
  go_upto_region 1 with fail
  refine name_world (R := fun W => Code.wp _ _ _ _ W) (P := fun W => Below w.heap.size w W ∧ Row W w.heap.size 31 (acells src) ∧ Row W (w.heap.size + 1) 31 (acells dst)) _ ⟨bX, rs0, r1⟩ ?_
  clear bX rs0 r1
  rintro X ⟨bX, rs0, rd0⟩
  have mX := m.below bX
  clear m
  go_upto_region 7 with (first
    | (have kk := K1; go_at_call 13; refine (import_new (w := w) K1 ad c l (fun W hW => mX.kt B1 hb hW) f (by omega)).mono ?_; rintro e W2 ⟨rfl, K2, T2⟩; have rs := T2.row K1 (rs0.below B1 rs0.lt) (by decide); have rd := T2.row K1 (rd0.below B1 rd0.lt) (by decide); have B2 := bt bX (T2.base B1 hb))
    | (go_at_call 9; refine (new_ex X).mono ?_; rintro e w1 ⟨k, b, rfl, K1, B1, hb⟩))
  have hlook := lookup_any K2 src dst
  rw [ho] at hlook
  have hnd := K2.nd
  have HS : Hid (x ∈ impF [] l ∧ Fa.famA src = Fa.famA dst ∧ Fa.mat x.e.p src dst = true ∧ ∀ y ∈ impF [] l, Fa.famP y.e.p.d = Fa.famA dst → Fa.con y.e.p.d dst = true → y.e.p.d.n ≤ x.e.p.d.n) := look_spec hnd hck ho
  have hall := sel_all HF.out.1
  have hls : (sel true (impF [] l)).length = (impF [] l).length := by rw [hall.2, List.length_map]
  have hs0 : (sel false (impF [] l)).length = 0 := by rw [hall.1]; rfl
  have HA : Hid (sel true (impF [] l) = (impF [] l).map Hd.e) := hall.2
  have hl1 : (impF [] l).length ≤ 1000000 := by have := HF.out.2; omega
  clear ho hall hnd mX f d1 K1 B1 T2 rs0 rd0 bX hck h1 hb
  generalize impF [] l = F at *
  go_upto_region 9 with (first
    | (have kk := K9; go_at_call 18; refine (imp_own K9 hl1 hls).mono ?_; rintro e W10 ⟨a11, c11, A, rfl, hAl, hA2, hAA, hO, b10⟩)
    | (have kk := q9; (with_reducible refine stE (.tmp 9) (.tmp 29) ?_ ?_ g9 x.e zeroE ?_ ?_ ?_ ?_); (focus rfl); (focus rfl); (focus (repeat (first | with_reducible refine ev_ne ?_ rfl | with_reducible refine ev_no ?_ | (with_reducible refine ev_eq (n := 108) ?_ rfl; repeat (first | with_reducible refine sz_put ?_ | with_reducible refine sz_no ?_ | rfl)) | rfl))); (focus (repeat (first | with_reducible refine ev_ne ?_ rfl | with_reducible refine ev_no ?_ | (with_reducible refine ev_eq (n := 108) ?_ rfl; repeat (first | with_reducible refine sz_put ?_ | with_reducible refine sz_no ?_ | rfl)) | rfl))); (focus exact q9); intro W9 gr9 r9; have k9 := bt c8 (grown_below gr9 b9 h9 b9.size); have K9 := K2.below k9; clear q9)
    | (have kk := c8; (with_reducible refine alG infoEz ?_ ?_ ?_); (focus rfl); (focus rfl); intro g9 V9 h9 l9 b9 q9)
    | (have kk := K2; go_at_call 19; refine hlook.mono ?_; rintro e X8 ⟨rfl, c8⟩)
    | (refine ldA (.tmp 4) rfl rfl _ _ src rfl rs.range ?_)
    | (refine ldA (.tmp 5) rfl rfl _ _ dst rfl rd.range ?_))
  have K10 := K9.below b10
  have k10 := bt k9 b10
  have B10 := bt B2 k10
  have rs10 := rs.below k10 rs.lt
  have rd10 := rd.below k10 rd.lt
  have r9' := r9.below b10 r9.lt
  generalize W9.heap.size = BA at *
  clear hlook K2 K9 rs rd r9 b10 k10 B2 k9 c8 b9 h9 l9 gr9 hls
  go_upto_region 11 with (first
    | (have kk := K10; go_at_call 17; refine (list_len K10 hl1 hs0).mono ?_; rintro e W11 ⟨a12, c12, rfl, b11⟩))
  have B11 := bt B10 b11
  have rs11 := rs10.below b11 rs10.lt
  have rd11 := rd10.below b11 rd10.lt
  have r911 := r9'.below b11 r9'.lt
  have hO11 := own_below hO b11
  clear K10 B10 rs10 rd10 r9' hO b11
  rw [← hAl] at hO11 ⊢
  clear hAl
  have HY : Hid (∀ e ∈ A, ∃ y ∈ F, y.e = e) := fun e he => by
    have h4 := hA2.mem_iff.1 he
    rw [HA.out] at h4
    obtain ⟨y, hy, rfl⟩ := List.mem_map.1 h4
    exact ⟨y, hy, rfl⟩
  have HX : Hid (x.e ∈ A) := hA2.mem_iff.2 (by rw [HA.out]; exact List.mem_map_of_mem HS.out.1)
  have hAl : A.length ≤ 1000000 := by
    have h4 := hA2.length_eq
    rw [HA.out, List.length_map] at h4
    omega
  have hEs := (EsW.own hO11).2
  have HK : Hid (∀ V, Below W11.heap.size W11 V → LE V g9 0 x.e ∧ LA V w.heap.size 0 src ∧ LA V (w.heap.size + 1) 0 dst ∧ EsW V a11 A) := fun V hV => ⟨(r911.below hV r911.lt).en, (rs11.below hV rs11.lt).range, (rd11.below hV rd11.lt).range, hEs.below hV⟩
  clear HF HA hs0 hl1 hA2 hAA hO11 rs11 rd11 r911 hEs
  go_wp2_with fail
  go_loopw [12] (fun v wr => ∃ j : Nat, j ≤ A.length ∧ v = .int .i64 j ∧ Below W11.heap.size W11 wr) (fun v _ => A.length - (intOf v).toNat)
  case atStart => exact ⟨0, Nat.zero_le _, rfl, Below.refl _ _⟩
  case round =>
    obtain ⟨j, hj, rfl, hB⟩ := hrel
    by_cases hlt : j < A.length
    · obtain ⟨g, o, rfl, hg, hq⟩ : ∃ g o, a11 = some ⟨g, o, none⟩ ∧ g < wr.heap.size ∧ LE wr g (o + j * 51) (A[j]'hlt) := by
        rcases (HK.out _ hB).2.2.2.lies with h0 | ⟨g, o, e, hg, hc⟩
        · rw [h0] at hlt; simp at hlt
        · exact ⟨g, o, e, hg, hc j _ (List.getElem?_eq_getElem hlt)⟩
      obtain ⟨y, hyF, hye⟩ := HY.out _ (List.getElem_mem hlt)
      have HL : Hid (Fa.famP (A[j]'hlt).p.d = Fa.famA dst → Fa.con (A[j]'hlt).p.d dst = true → (A[j]'hlt).p.d.n ≤ x.e.p.d.n) := by
        rw [← hye]
        exact HS.out.2.2.2 y hyF
      have hji : (j : Int) < (A.length : Int) := by omega
      have hw64 : wrap64 ((j : Int) + 1) = (j : Int) + 1 := by unfold wrap64; omega
      have HJ : Hid (j + 1 ≤ A.length) := hlt
      have HM : Hid (A.length - ((j : Int) + 1).toNat < A.length - ((j : Int)).toNat) := meas hlt
      have hPF := Fa.pfam_any (A[j]'hlt).p.d
      have hFA := Fa.fam_any dst
      have hCN := Fa.contains_any (A[j]'hlt).p.d dst
      clear hyF hye HY HX HS hj
      generalize (A[j]'hlt) = e at *
      go_upto_region 15 with (first
        | (have kk := q13; (with_reducible refine stQ0 (.tmp 13) (.tmp 56) ?_ ?_ g13 e.p zeroQ ?_ ?_ ?_ ?_); (focus rfl); (focus rfl); (focus (repeat (first | with_reducible refine ev_ne ?_ rfl | with_reducible refine ev_no ?_ | (with_reducible refine ev_eq (n := 108) ?_ rfl; repeat (first | with_reducible refine sz_put ?_ | with_reducible refine sz_no ?_ | rfl)) | rfl))); (focus (repeat (first | with_reducible refine ev_ne ?_ rfl | with_reducible refine ev_no ?_ | (with_reducible refine ev_eq (n := 108) ?_ rfl; repeat (first | with_reducible refine sz_put ?_ | with_reducible refine sz_no ?_ | rfl)) | rfl))); (focus exact q13); intro W14 gr13 r13; clear q13)
        | ((with_reducible refine alG infoQz ?_ ?_ ?_); (focus rfl); (focus rfl); intro g13 V13 h13 l13 b13 q13)
        | ((with_reducible refine ldQ (.tmp 55) ?_ ?_ g (o + j * 51) e.p ?_ ?_ ?_); (focus rfl); (focus rfl); (focus (repeat (first | with_reducible refine ev_ne ?_ rfl | with_reducible refine ev_no ?_ | (with_reducible refine ev_eq (n := 108) ?_ rfl; repeat (first | with_reducible refine sz_put ?_ | with_reducible refine sz_no ?_ | rfl)) | rfl))); (focus exact hq.q)))
      have b14 := grown_below gr13 b13 h13 b13.size
      have hr13 := r13.lt
      have HV : Hid (∀ V, Below W14.heap.size W14 V → LQ V g13 0 e.p ∧ LA V (w.heap.size + 1) 0 dst ∧ LE V g9 0 x.e) := fun V hV => ⟨(r13.below hV hr13).range, (HK.out V (bt hB (bt b14 hV))).2.2.1, (HK.out V (bt hB (bt b14 hV))).1⟩
      clear gr13 b13 h13 l13 r13 hq hg
      generalize hfp : Fa.famP e.p.d = fp at *
      generalize hfd : Fa.famA dst = fd at *
      generalize hcc : Fa.con e.p.d dst = cc at *
      by_cases hfe : fp = fd
      · subst hfe
        have hz : (fp == fp) = true := by simp
        cases cc with
        | true =>
          have hle := HL.out rfl rfl
          have dle : decide (x.e.p.d.n < e.p.d.n) = false := by simp; omega
          clear HL hle
          refine wp_region_noPanic ?_
          refine wp_region_held_drew (S := fun V => Below W14.heap.size W14 V) (by kernel_rfl) ((Below.refl _ _).drew) (fun hHeld => ?_)
          refine take_lit (i := 0) (v := ?_) rfl (by kernel_rfl) (by kernel_rfl) (by kernel_rfl) (fun _ _ _ h => h) (Or.inl ⟨by rfl, ?_⟩) (by assumption) ?_
          rotate_left
          · (intro w hSw; (try dsimp only at hSw); go_simp <;> with_reducible rfl)
          try simp only [Act.put, List.setIfInBounds_toArray, List.set_cons_zero, List.set_cons_succ]
          refine take_lit (i := 1) rfl (by kernel_rfl) (by kernel_rfl) (by kernel_rfl) (fun _ _ _ h => h) (yP e.p.d (fun w h => (HV.out _ h).1.d) (by rfl) rfl rfl) (by assumption) ?_
          try simp only [Act.put, List.setIfInBounds_toArray, List.set_cons_zero, List.set_cons_succ]
          refine take_lit (i := 3) rfl (by kernel_rfl) (by kernel_rfl) (by kernel_rfl) (fun _ _ _ h => h) (yA dst (fun w h => (HV.out _ h).2.1) (by rfl) rfl rfl) (by assumption) ?_
          try simp only [Act.put, List.setIfInBounds_toArray, List.set_cons_zero, List.set_cons_succ]
          refine wpAnyH_ready (rs := [2]) (by kernel_rfl) (by simp) ?_
          refine cons_lit rfl (fun K hK => ?_) ?_
          · go_simp
            refine (hPF _).mono ?_
            rintro e2 w2 ⟨rfl, hg2⟩
            refine hK.out _ _ ?_ (fun hHeld => ?_)
            · exact bt hHeld hg2
            clear hK K
            try simp only [Act.put, List.setIfInBounds_toArray, List.set_cons_zero, List.set_cons_succ]
            refine wpAnyH_ready (rs := [4]) (by kernel_rfl) (by simp) ?_
            refine cons_lit rfl (fun K hK => ?_) ?_
            · go_simp
              refine (hFA _).mono ?_
              rintro e4 w4 ⟨rfl, hg4⟩
              refine hK.out _ _ ?_ (fun hHeld => ?_)
              · exact bt hHeld hg4
              clear hK K
              try simp only [Act.put, List.setIfInBounds_toArray, List.set_cons_zero, List.set_cons_succ]
              refine take_lit (i := 5) (v := ?_) rfl (by kernel_rfl) (by kernel_rfl) (by kernel_rfl) (fun _ _ _ h => h) (Or.inl ⟨by rfl, ?_⟩) (by assumption) ?_
              rotate_left
              · (intro w hSw; (try dsimp only at hSw); go_simp <;> with_reducible rfl)
              try simp only [Act.put, List.setIfInBounds_toArray, List.set_cons_zero, List.set_cons_succ]
              refine take_lit (i := 6) (v := ?_) rfl (by kernel_rfl) (by kernel_rfl) (by kernel_rfl) (fun _ _ _ h => h) (Or.inl ⟨by rfl, ?_⟩) (by assumption) ?_
              rotate_left
              · (intro w hSw; (try dsimp only at hSw); go_simp <;> with_reducible rfl)
              try simp only [Act.put, List.setIfInBounds_toArray, List.set_cons_zero, List.set_cons_succ]
              refine take_lit (i := 7) (v := ?_) rfl (by kernel_rfl) (by kernel_rfl) (by kernel_rfl) (fun _ _ _ h => h) (Or.inl ⟨by rfl, ?_⟩) (by assumption) ?_
              rotate_left
              · (intro w hSw; (try dsimp only at hSw); go_simp <;> with_reducible rfl)
              try simp only [Act.put, List.setIfInBounds_toArray, List.set_cons_zero, List.set_cons_succ]
              refine take_lit (i := 8) rfl (by kernel_rfl) (by kernel_rfl) (by kernel_rfl) (fun _ _ _ h => h) (yP e.p.d (fun w h => (HV.out _ h).1.d) (by rfl) rfl rfl) (by assumption) ?_
              try simp only [Act.put, List.setIfInBounds_toArray, List.set_cons_zero, List.set_cons_succ]
              refine take_lit (i := 9) rfl (by kernel_rfl) (by kernel_rfl) (by kernel_rfl) (fun _ _ _ h => h) (yA dst (fun w h => (HV.out _ h).2.1) (by rfl) rfl rfl) (by assumption) ?_
              try simp only [Act.put, List.setIfInBounds_toArray, List.set_cons_zero, List.set_cons_succ]
              refine wpAnyH_ready (rs := [10]) (by kernel_rfl) (by simp) ?_
              refine cons_lit rfl (fun K hK => ?_) ?_
              · go_simp
                refine (hCN _).mono ?_
                rintro e10 w10 ⟨rfl, hg10⟩
                refine hK.out _ _ ?_ (fun hHeld => ?_)
                · exact bt hHeld hg10
                clear hK K
                try simp only [Act.put, List.setIfInBounds_toArray, List.set_cons_zero, List.set_cons_succ]
                refine take_lit (i := 11) (v := ?_) rfl (by kernel_rfl) (by kernel_rfl) (by kernel_rfl) (fun _ _ _ h => h) (Or.inl ⟨by rfl, ?_⟩) (by assumption) ?_
                rotate_left
                · (intro w hSw; (try dsimp only at hSw); go_simp <;> with_reducible rfl)
                try simp only [Act.put, List.setIfInBounds_toArray, List.set_cons_zero, List.set_cons_succ]
                refine take_lit (i := 12) (v := ?_) rfl (by kernel_rfl) (by kernel_rfl) (by kernel_rfl) (fun _ _ _ h => h) (Or.inl ⟨by rfl, ?_⟩) (by assumption) ?_
                rotate_left
                · (intro w hSw; (try dsimp only at hSw); go_simp <;> with_reducible rfl)
                try simp only [Act.put, List.setIfInBounds_toArray, List.set_cons_zero, List.set_cons_succ]
                refine take_lit (i := 13) (v := ?_) rfl (by kernel_rfl) (by kernel_rfl) (by kernel_rfl) (fun _ _ _ h => h) (Or.inl ⟨by rfl, ?_⟩) (by assumption) ?_
                rotate_left
                · (intro w hSw; (try dsimp only at hSw); go_simp <;> with_reducible rfl)
                try simp only [Act.put, List.setIfInBounds_toArray, List.set_cons_zero, List.set_cons_succ]
                refine take_lit (i := 14) (v := ?_) rfl (by kernel_rfl) (by kernel_rfl) (by kernel_rfl) (fun _ _ _ h => h) (Or.inl ⟨by rfl, ?_⟩) (by assumption) ?_
                rotate_left
                · (intro w hSw; (try dsimp only at hSw); go_simp <;> with_reducible rfl)
                try simp only [Act.put, List.setIfInBounds_toArray, List.set_cons_zero, List.set_cons_succ]
                refine take_lit (i := 15) (v := ?_) rfl (by kernel_rfl) (by kernel_rfl) (by kernel_rfl) (fun _ _ _ h => h) (Or.inl ⟨by rfl, ?_⟩) (by assumption) ?_
                rotate_left
                · (intro w hSw; (try dsimp only at hSw); have z := (HV.out _ hSw).1.d.n; go_simp <;> with_reducible rfl)
                try simp only [Act.put, List.setIfInBounds_toArray, List.set_cons_zero, List.set_cons_succ]
                refine take_lit (i := 16) (v := ?_) rfl (by kernel_rfl) (by kernel_rfl) (by kernel_rfl) (fun _ _ _ h => h) (Or.inl ⟨by rfl, ?_⟩) (by assumption) ?_
                rotate_left
                · (intro w hSw; (try dsimp only at hSw); go_simp <;> with_reducible rfl)
                try simp only [Act.put, List.setIfInBounds_toArray, List.set_cons_zero, List.set_cons_succ]
                refine take_lit (i := 17) (v := ?_) rfl (by kernel_rfl) (by kernel_rfl) (by kernel_rfl) (fun _ _ _ h => h) (Or.inl ⟨by rfl, ?_⟩) (by assumption) ?_
                rotate_left
                · (intro w hSw; (try dsimp only at hSw); go_simp <;> with_reducible rfl)
                try simp only [Act.put, List.setIfInBounds_toArray, List.set_cons_zero, List.set_cons_succ]
                refine take_lit (i := 18) (v := ?_) rfl (by kernel_rfl) (by kernel_rfl) (by kernel_rfl) (fun _ _ _ h => h) (Or.inl ⟨by rfl, ?_⟩) (by assumption) ?_
                rotate_left
                · (intro w hSw; (try dsimp only at hSw); go_simp <;> with_reducible rfl)
                try simp only [Act.put, List.setIfInBounds_toArray, List.set_cons_zero, List.set_cons_succ]
                refine take_lit (i := 19) (v := ?_) rfl (by kernel_rfl) (by kernel_rfl) (by kernel_rfl) (fun _ _ _ h => h) (Or.inl ⟨by rfl, ?_⟩) (by assumption) ?_
                rotate_left
                · (intro w hSw; (try dsimp only at hSw); have z := (HV.out _ hSw).2.2.d.n; go_simp <;> with_reducible rfl)
                try simp only [Act.put, List.setIfInBounds_toArray, List.set_cons_zero, List.set_cons_succ]
                refine take_lit (i := 20) (v := ?_) rfl (by kernel_rfl) (by kernel_rfl) (by kernel_rfl) (fun _ _ _ h => h) (Or.inl ⟨by rfl, ?_⟩) (by assumption) ?_
                rotate_left
                · (intro w hSw; (try dsimp only at hSw); go_simp <;> with_reducible rfl)
                try simp only [Act.put, List.setIfInBounds_toArray, List.set_cons_zero, List.set_cons_succ]
                refine take_lit (i := 21) (v := ?_) rfl (by kernel_rfl) (by kernel_rfl) (by kernel_rfl) (fun _ _ _ h => h) (Or.inl ⟨by rfl, ?_⟩) (by assumption) ?_
                rotate_left
                · (intro w hSw; (try dsimp only at hSw); go_simp <;> with_reducible rfl)
                try simp only [Act.put, List.setIfInBounds_toArray, List.set_cons_zero, List.set_cons_succ]
                refine wpAnyH_done (by kernel_rfl) ?_ _
                refine NoPanic.normal ?_
                have B15 := bt hB (bt b14 hHeld)
                clear hHeld HV hPF hFA hCN
                go_wp2_with fail
                go_roundw
                case rel => exact ⟨j + 1, HJ.out, by first | (rw [hw64]; rfl) | rfl | go_num, B15⟩
                case measure => first | (rw [hw64]; simp only [intOf]; exact HM.out) | (simp only [intOf]; exact HM.out)
              exact AllReadyH.nil
            exact AllReadyH.nil
          exact AllReadyH.nil
        | false =>
          refine wp_region_noPanic ?_
          refine wp_region_held_drew (S := fun V => Below W14.heap.size W14 V) (by kernel_rfl) ((Below.refl _ _).drew) (fun hHeld => ?_)
          refine take_lit (i := 0) (v := ?_) rfl (by kernel_rfl) (by kernel_rfl) (by kernel_rfl) (fun _ _ _ h => h) (Or.inl ⟨by rfl, ?_⟩) (by assumption) ?_
          rotate_left
          · (intro w hSw; (try dsimp only at hSw); go_simp <;> with_reducible rfl)
          try simp only [Act.put, List.setIfInBounds_toArray, List.set_cons_zero, List.set_cons_succ]
          refine take_lit (i := 1) rfl (by kernel_rfl) (by kernel_rfl) (by kernel_rfl) (fun _ _ _ h => h) (yP e.p.d (fun w h => (HV.out _ h).1.d) (by rfl) rfl rfl) (by assumption) ?_
          try simp only [Act.put, List.setIfInBounds_toArray, List.set_cons_zero, List.set_cons_succ]
          refine take_lit (i := 3) rfl (by kernel_rfl) (by kernel_rfl) (by kernel_rfl) (fun _ _ _ h => h) (yA dst (fun w h => (HV.out _ h).2.1) (by rfl) rfl rfl) (by assumption) ?_
          try simp only [Act.put, List.setIfInBounds_toArray, List.set_cons_zero, List.set_cons_succ]
          refine wpAnyH_ready (rs := [2]) (by kernel_rfl) (by simp) ?_
          refine cons_lit rfl (fun K hK => ?_) ?_
          · go_simp
            refine (hPF _).mono ?_
            rintro e2 w2 ⟨rfl, hg2⟩
            refine hK.out _ _ ?_ (fun hHeld => ?_)
            · exact bt hHeld hg2
            clear hK K
            try simp only [Act.put, List.setIfInBounds_toArray, List.set_cons_zero, List.set_cons_succ]
            refine wpAnyH_ready (rs := [4]) (by kernel_rfl) (by simp) ?_
            refine cons_lit rfl (fun K hK => ?_) ?_
            · go_simp
              refine (hFA _).mono ?_
              rintro e4 w4 ⟨rfl, hg4⟩
              refine hK.out _ _ ?_ (fun hHeld => ?_)
              · exact bt hHeld hg4
              clear hK K
              try simp only [Act.put, List.setIfInBounds_toArray, List.set_cons_zero, List.set_cons_succ]
              refine take_lit (i := 5) (v := ?_) rfl (by kernel_rfl) (by kernel_rfl) (by kernel_rfl) (fun _ _ _ h => h) (Or.inl ⟨by rfl, ?_⟩) (by assumption) ?_
              rotate_left
              · (intro w hSw; (try dsimp only at hSw); go_simp <;> with_reducible rfl)
              try simp only [Act.put, List.setIfInBounds_toArray, List.set_cons_zero, List.set_cons_succ]
              refine take_lit (i := 6) (v := ?_) rfl (by kernel_rfl) (by kernel_rfl) (by kernel_rfl) (fun _ _ _ h => h) (Or.inl ⟨by rfl, ?_⟩) (by assumption) ?_
              rotate_left
              · (intro w hSw; (try dsimp only at hSw); go_simp <;> with_reducible rfl)
              try simp only [Act.put, List.setIfInBounds_toArray, List.set_cons_zero, List.set_cons_succ]
              refine take_lit (i := 7) (v := ?_) rfl (by kernel_rfl) (by kernel_rfl) (by kernel_rfl) (fun _ _ _ h => h) (Or.inl ⟨by rfl, ?_⟩) (by assumption) ?_
              rotate_left
              · (intro w hSw; (try dsimp only at hSw); go_simp <;> with_reducible rfl)
              try simp only [Act.put, List.setIfInBounds_toArray, List.set_cons_zero, List.set_cons_succ]
              refine take_lit (i := 8) rfl (by kernel_rfl) (by kernel_rfl) (by kernel_rfl) (fun _ _ _ h => h) (yP e.p.d (fun w h => (HV.out _ h).1.d) (by rfl) rfl rfl) (by assumption) ?_
              try simp only [Act.put, List.setIfInBounds_toArray, List.set_cons_zero, List.set_cons_succ]
              refine take_lit (i := 9) rfl (by kernel_rfl) (by kernel_rfl) (by kernel_rfl) (fun _ _ _ h => h) (yA dst (fun w h => (HV.out _ h).2.1) (by rfl) rfl rfl) (by assumption) ?_
              try simp only [Act.put, List.setIfInBounds_toArray, List.set_cons_zero, List.set_cons_succ]
              refine wpAnyH_ready (rs := [10]) (by kernel_rfl) (by simp) ?_
              refine cons_lit rfl (fun K hK => ?_) ?_
              · go_simp
                refine (hCN _).mono ?_
                rintro e10 w10 ⟨rfl, hg10⟩
                refine hK.out _ _ ?_ (fun hHeld => ?_)
                · exact bt hHeld hg10
                clear hK K
                try simp only [Act.put, List.setIfInBounds_toArray, List.set_cons_zero, List.set_cons_succ]
                refine take_lit (i := 11) (v := ?_) rfl (by kernel_rfl) (by kernel_rfl) (by kernel_rfl) (fun _ _ _ h => h) (Or.inl ⟨by rfl, ?_⟩) (by assumption) ?_
                rotate_left
                · (intro w hSw; (try dsimp only at hSw); go_simp <;> with_reducible rfl)
                try simp only [Act.put, List.setIfInBounds_toArray, List.set_cons_zero, List.set_cons_succ]
                refine take_lit (i := 12) (v := ?_) rfl (by kernel_rfl) (by kernel_rfl) (by kernel_rfl) (fun _ _ _ h => h) (Or.inl ⟨by rfl, ?_⟩) (by assumption) ?_
                rotate_left
                · (intro w hSw; (try dsimp only at hSw); go_simp <;> with_reducible rfl)
                try simp only [Act.put, List.setIfInBounds_toArray, List.set_cons_zero, List.set_cons_succ]
                refine take_lit (i := 13) rfl (by kernel_rfl) (by kernel_rfl) (by kernel_rfl) (fun _ _ _ h => h) (Or.inr ⟨by rfl, rfl⟩) (by assumption) ?_
                try simp only [Act.put, List.setIfInBounds_toArray, List.set_cons_zero, List.set_cons_succ]
                refine take_lit (i := 14) rfl (by kernel_rfl) (by kernel_rfl) (by kernel_rfl) (fun _ _ _ h => h) (Or.inr ⟨by rfl, rfl⟩) (by assumption) ?_
                try simp only [Act.put, List.setIfInBounds_toArray, List.set_cons_zero, List.set_cons_succ]
                refine take_lit (i := 15) rfl (by kernel_rfl) (by kernel_rfl) (by kernel_rfl) (fun _ _ _ h => h) (Or.inr ⟨by rfl, rfl⟩) (by assumption) ?_
                try simp only [Act.put, List.setIfInBounds_toArray, List.set_cons_zero, List.set_cons_succ]
                refine take_lit (i := 16) rfl (by kernel_rfl) (by kernel_rfl) (by kernel_rfl) (fun _ _ _ h => h) (Or.inr ⟨by rfl, rfl⟩) (by assumption) ?_
                try simp only [Act.put, List.setIfInBounds_toArray, List.set_cons_zero, List.set_cons_succ]
                refine take_lit (i := 17) rfl (by kernel_rfl) (by kernel_rfl) (by kernel_rfl) (fun _ _ _ h => h) (Or.inr ⟨by rfl, rfl⟩) (by assumption) ?_
                try simp only [Act.put, List.setIfInBounds_toArray, List.set_cons_zero, List.set_cons_succ]
                refine take_lit (i := 18) rfl (by kernel_rfl) (by kernel_rfl) (by kernel_rfl) (fun _ _ _ h => h) (Or.inr ⟨by rfl, rfl⟩) (by assumption) ?_
                try simp only [Act.put, List.setIfInBounds_toArray, List.set_cons_zero, List.set_cons_succ]
                refine take_lit (i := 19) rfl (by kernel_rfl) (by kernel_rfl) (by kernel_rfl) (fun _ _ _ h => h) (Or.inr ⟨by rfl, rfl⟩) (by assumption) ?_
                try simp only [Act.put, List.setIfInBounds_toArray, List.set_cons_zero, List.set_cons_succ]
                refine take_lit (i := 20) rfl (by kernel_rfl) (by kernel_rfl) (by kernel_rfl) (fun _ _ _ h => h) (Or.inr ⟨by rfl, rfl⟩) (by assumption) ?_
                try simp only [Act.put, List.setIfInBounds_toArray, List.set_cons_zero, List.set_cons_succ]
                refine take_lit (i := 21) (v := ?_) rfl (by kernel_rfl) (by kernel_rfl) (by kernel_rfl) (fun _ _ _ h => h) (Or.inl ⟨by rfl, ?_⟩) (by assumption) ?_
                rotate_left
                · (intro w hSw; (try dsimp only at hSw); go_simp <;> with_reducible rfl)
                try simp only [Act.put, List.setIfInBounds_toArray, List.set_cons_zero, List.set_cons_succ]
                refine wpAnyH_done (by kernel_rfl) ?_ _
                refine NoPanic.normal ?_
                have B15 := bt hB (bt b14 hHeld)
                clear hHeld HV hPF hFA hCN HL
                go_wp2_with fail
                go_roundw
                case rel => exact ⟨j + 1, HJ.out, by first | (rw [hw64]; rfl) | rfl | go_num, B15⟩
                case measure => first | (rw [hw64]; simp only [intOf]; exact HM.out) | (simp only [intOf]; exact HM.out)
              exact AllReadyH.nil
            exact AllReadyH.nil
          exact AllReadyH.nil
      · have hz : (fp == fd) = false := by simpa using hfe
        refine wp_region_noPanic ?_
        refine wp_region_held_drew (S := fun V => Below W14.heap.size W14 V) (by kernel_rfl) ((Below.refl _ _).drew) (fun hHeld => ?_)
        refine take_lit (i := 0) (v := ?_) rfl (by kernel_rfl) (by kernel_rfl) (by kernel_rfl) (fun _ _ _ h => h) (Or.inl ⟨by rfl, ?_⟩) (by assumption) ?_
        rotate_left
        · (intro w hSw; (try dsimp only at hSw); go_simp <;> with_reducible rfl)
        try simp only [Act.put, List.setIfInBounds_toArray, List.set_cons_zero, List.set_cons_succ]
        refine take_lit (i := 1) rfl (by kernel_rfl) (by kernel_rfl) (by kernel_rfl) (fun _ _ _ h => h) (yP e.p.d (fun w h => (HV.out _ h).1.d) (by rfl) rfl rfl) (by assumption) ?_
        try simp only [Act.put, List.setIfInBounds_toArray, List.set_cons_zero, List.set_cons_succ]
        refine take_lit (i := 3) rfl (by kernel_rfl) (by kernel_rfl) (by kernel_rfl) (fun _ _ _ h => h) (yA dst (fun w h => (HV.out _ h).2.1) (by rfl) rfl rfl) (by assumption) ?_
        try simp only [Act.put, List.setIfInBounds_toArray, List.set_cons_zero, List.set_cons_succ]
        refine wpAnyH_ready (rs := [2]) (by kernel_rfl) (by simp) ?_
        refine cons_lit rfl (fun K hK => ?_) ?_
        · go_simp
          refine (hPF _).mono ?_
          rintro e2 w2 ⟨rfl, hg2⟩
          refine hK.out _ _ ?_ (fun hHeld => ?_)
          · exact bt hHeld hg2
          clear hK K
          try simp only [Act.put, List.setIfInBounds_toArray, List.set_cons_zero, List.set_cons_succ]
          refine wpAnyH_ready (rs := [4]) (by kernel_rfl) (by simp) ?_
          refine cons_lit rfl (fun K hK => ?_) ?_
          · go_simp
            refine (hFA _).mono ?_
            rintro e4 w4 ⟨rfl, hg4⟩
            refine hK.out _ _ ?_ (fun hHeld => ?_)
            · exact bt hHeld hg4
            clear hK K
            try simp only [Act.put, List.setIfInBounds_toArray, List.set_cons_zero, List.set_cons_succ]
            refine take_lit (i := 5) (v := ?_) rfl (by kernel_rfl) (by kernel_rfl) (by kernel_rfl) (fun _ _ _ h => h) (Or.inl ⟨by rfl, ?_⟩) (by assumption) ?_
            rotate_left
            · (intro w hSw; (try dsimp only at hSw); go_simp <;> with_reducible rfl)
            try simp only [Act.put, List.setIfInBounds_toArray, List.set_cons_zero, List.set_cons_succ]
            refine take_lit (i := 6) (v := ?_) rfl (by kernel_rfl) (by kernel_rfl) (by kernel_rfl) (fun _ _ _ h => h) (Or.inl ⟨by rfl, ?_⟩) (by assumption) ?_
            rotate_left
            · (intro w hSw; (try dsimp only at hSw); go_simp <;> with_reducible rfl)
            try simp only [Act.put, List.setIfInBounds_toArray, List.set_cons_zero, List.set_cons_succ]
            refine take_lit (i := 7) rfl (by kernel_rfl) (by kernel_rfl) (by kernel_rfl) (fun _ _ _ h => h) (Or.inr ⟨by rfl, rfl⟩) (by assumption) ?_
            try simp only [Act.put, List.setIfInBounds_toArray, List.set_cons_zero, List.set_cons_succ]
            refine take_lit (i := 8) rfl (by kernel_rfl) (by kernel_rfl) (by kernel_rfl) (fun _ _ _ h => h) (Or.inr ⟨by rfl, rfl⟩) (by assumption) ?_
            try simp only [Act.put, List.setIfInBounds_toArray, List.set_cons_zero, List.set_cons_succ]
            refine take_lit (i := 9) rfl (by kernel_rfl) (by kernel_rfl) (by kernel_rfl) (fun _ _ _ h => h) (Or.inr ⟨by rfl, rfl⟩) (by assumption) ?_
            try simp only [Act.put, List.setIfInBounds_toArray, List.set_cons_zero, List.set_cons_succ]
            refine take_lit (i := 10) rfl (by kernel_rfl) (by kernel_rfl) (by kernel_rfl) (fun _ _ _ h => h) (Or.inr ⟨by rfl, rfl⟩) (by assumption) ?_
            try simp only [Act.put, List.setIfInBounds_toArray, List.set_cons_zero, List.set_cons_succ]
            refine take_lit (i := 11) (v := ?_) rfl (by kernel_rfl) (by kernel_rfl) (by kernel_rfl) (fun _ _ _ h => h) (Or.inl ⟨by rfl, ?_⟩) (by assumption) ?_
            rotate_left
            · (intro w hSw; (try dsimp only at hSw); go_simp <;> with_reducible rfl)
            try simp only [Act.put, List.setIfInBounds_toArray, List.set_cons_zero, List.set_cons_succ]
            refine take_lit (i := 12) (v := ?_) rfl (by kernel_rfl) (by kernel_rfl) (by kernel_rfl) (fun _ _ _ h => h) (Or.inl ⟨by rfl, ?_⟩) (by assumption) ?_
            rotate_left
            · (intro w hSw; (try dsimp only at hSw); go_simp <;> with_reducible rfl)
            try simp only [Act.put, List.setIfInBounds_toArray, List.set_cons_zero, List.set_cons_succ]
            refine take_lit (i := 13) rfl (by kernel_rfl) (by kernel_rfl) (by kernel_rfl) (fun _ _ _ h => h) (Or.inr ⟨by rfl, rfl⟩) (by assumption) ?_
            try simp only [Act.put, List.setIfInBounds_toArray, List.set_cons_zero, List.set_cons_succ]
            refine take_lit (i := 14) rfl (by kernel_rfl) (by kernel_rfl) (by kernel_rfl) (fun _ _ _ h => h) (Or.inr ⟨by rfl, rfl⟩) (by assumption) ?_
            try simp only [Act.put, List.setIfInBounds_toArray, List.set_cons_zero, List.set_cons_succ]
            refine take_lit (i := 15) rfl (by kernel_rfl) (by kernel_rfl) (by kernel_rfl) (fun _ _ _ h => h) (Or.inr ⟨by rfl, rfl⟩) (by assumption) ?_
            try simp only [Act.put, List.setIfInBounds_toArray, List.set_cons_zero, List.set_cons_succ]
            refine take_lit (i := 16) rfl (by kernel_rfl) (by kernel_rfl) (by kernel_rfl) (fun _ _ _ h => h) (Or.inr ⟨by rfl, rfl⟩) (by assumption) ?_
            try simp only [Act.put, List.setIfInBounds_toArray, List.set_cons_zero, List.set_cons_succ]
            refine take_lit (i := 17) rfl (by kernel_rfl) (by kernel_rfl) (by kernel_rfl) (fun _ _ _ h => h) (Or.inr ⟨by rfl, rfl⟩) (by assumption) ?_
            try simp only [Act.put, List.setIfInBounds_toArray, List.set_cons_zero, List.set_cons_succ]
            refine take_lit (i := 18) rfl (by kernel_rfl) (by kernel_rfl) (by kernel_rfl) (fun _ _ _ h => h) (Or.inr ⟨by rfl, rfl⟩) (by assumption) ?_
            try simp only [Act.put, List.setIfInBounds_toArray, List.set_cons_zero, List.set_cons_succ]
            refine take_lit (i := 19) rfl (by kernel_rfl) (by kernel_rfl) (by kernel_rfl) (fun _ _ _ h => h) (Or.inr ⟨by rfl, rfl⟩) (by assumption) ?_
            try simp only [Act.put, List.setIfInBounds_toArray, List.set_cons_zero, List.set_cons_succ]
            refine take_lit (i := 20) rfl (by kernel_rfl) (by kernel_rfl) (by kernel_rfl) (fun _ _ _ h => h) (Or.inr ⟨by rfl, rfl⟩) (by assumption) ?_
            try simp only [Act.put, List.setIfInBounds_toArray, List.set_cons_zero, List.set_cons_succ]
            refine take_lit (i := 21) (v := ?_) rfl (by kernel_rfl) (by kernel_rfl) (by kernel_rfl) (fun _ _ _ h => h) (Or.inl ⟨by rfl, ?_⟩) (by assumption) ?_
            rotate_left
            · (intro w hSw; (try dsimp only at hSw); go_simp <;> with_reducible rfl)
            try simp only [Act.put, List.setIfInBounds_toArray, List.set_cons_zero, List.set_cons_succ]
            refine wpAnyH_done (by kernel_rfl) ?_ _
            refine NoPanic.normal ?_
            have B15 := bt hB (bt b14 hHeld)
            clear hHeld HV hPF hFA hCN HL hfe
            go_wp2_with fail
            go_roundw
            case rel => exact ⟨j + 1, HJ.out, by first | (rw [hw64]; rfl) | rfl | go_num, B15⟩
            case measure => first | (rw [hw64]; simp only [intOf]; exact HM.out) | (simp only [intOf]; exact HM.out)
          exact AllReadyH.nil
        exact AllReadyH.nil
    · have hje : j = A.length := Nat.le_antisymm hj (Nat.not_lt.1 hlt)
      subst hje
      have hji : ¬ (A.length : Int) < (A.length : Int) := Int.lt_irrefl _
      have hMt := Fa.matches_any x.e.p src dst
      rw [HS.out.2.2.1] at hMt
      have hFS := Fa.fam_any src
      rw [HS.out.2.1] at hFS
      have hFD := Fa.fam_any dst
      have hfi : decide (0 ≤ fndI A x.e.p) = true := by
        have h4 : ¬ fndI A x.e.p < 0 := fun h5 => fndI_neg.1 h5 x.e HX.out rfl
        simp; omega
      have hFi := fun (V : World) (hV : Below W11.heap.size W11 V) => rfind_any a11 c11 (HK.out V hV).2.2.2 hAl x.e.p
      generalize fndI A x.e.p = fi at *
      generalize Fa.famA dst = fd at *
      clear hlt hj HY HX HS
      go_upto_region 18 with fail
      refine wp_region_noPanic ?_
      refine wp_region_held_drew (S := fun V => Below W11.heap.size W11 V) (by kernel_rfl) (hB.drew) (fun hHeld => ?_)
      refine take_lit (i := 0) (v := ?_) rfl (by kernel_rfl) (by kernel_rfl) (by kernel_rfl) (fun _ _ _ h => h) (Or.inl ⟨by rfl, ?_⟩) (by assumption) ?_
      rotate_left
      · (intro w hSw; (try dsimp only at hSw); go_simp <;> with_reducible rfl)
      try simp only [Act.put, List.setIfInBounds_toArray, List.set_cons_zero, List.set_cons_succ]
      refine take_lit (i := 1) rfl (by kernel_rfl) (by kernel_rfl) (by kernel_rfl) (fun _ _ _ h => h) (yQ x.e.p (fun w h => (HK.out _ h).1.q) (by rfl) rfl rfl) (by assumption) ?_
      try simp only [Act.put, List.setIfInBounds_toArray, List.set_cons_zero, List.set_cons_succ]
      refine take_lit (i := 2) rfl (by kernel_rfl) (by kernel_rfl) (by kernel_rfl) (fun _ _ _ h => h) (yA src (fun w h => (HK.out _ h).2.1) (by rfl) rfl rfl) (by assumption) ?_
      try simp only [Act.put, List.setIfInBounds_toArray, List.set_cons_zero, List.set_cons_succ]
      refine take_lit (i := 3) rfl (by kernel_rfl) (by kernel_rfl) (by kernel_rfl) (fun _ _ _ h => h) (yA dst (fun w h => (HK.out _ h).2.2.1) (by rfl) rfl rfl) (by assumption) ?_
      try simp only [Act.put, List.setIfInBounds_toArray, List.set_cons_zero, List.set_cons_succ]
      refine wpAnyH_ready (rs := [4]) (by kernel_rfl) (by simp) ?_
      refine cons_lit rfl (fun K hK => ?_) ?_
      · go_simp
        refine (hMt _).mono ?_
        rintro e4 w4 ⟨rfl, hg4⟩
        refine hK.out _ _ ?_ (fun hHeld => ?_)
        · exact bt hHeld hg4
        clear hK K
        try simp only [Act.put, List.setIfInBounds_toArray, List.set_cons_zero, List.set_cons_succ]
        refine take_lit (i := 5) (v := ?_) rfl (by kernel_rfl) (by kernel_rfl) (by kernel_rfl) (fun _ _ _ h => h) (Or.inl ⟨by rfl, ?_⟩) (by assumption) ?_
        rotate_left
        · (intro w hSw; (try dsimp only at hSw); go_simp <;> with_reducible rfl)
        try simp only [Act.put, List.setIfInBounds_toArray, List.set_cons_zero, List.set_cons_succ]
        refine take_lit (i := 6) rfl (by kernel_rfl) (by kernel_rfl) (by kernel_rfl) (fun _ _ _ h => h) (yA src (fun w h => (HK.out _ h).2.1) (by rfl) rfl rfl) (by assumption) ?_
        try simp only [Act.put, List.setIfInBounds_toArray, List.set_cons_zero, List.set_cons_succ]
        refine take_lit (i := 8) rfl (by kernel_rfl) (by kernel_rfl) (by kernel_rfl) (fun _ _ _ h => h) (yA dst (fun w h => (HK.out _ h).2.2.1) (by rfl) rfl rfl) (by assumption) ?_
        try simp only [Act.put, List.setIfInBounds_toArray, List.set_cons_zero, List.set_cons_succ]
        refine wpAnyH_ready (rs := [7]) (by kernel_rfl) (by simp) ?_
        refine cons_lit rfl (fun K hK => ?_) ?_
        · go_simp
          refine (hFS _).mono ?_
          rintro e7 w7 ⟨rfl, hg7⟩
          refine hK.out _ _ ?_ (fun hHeld => ?_)
          · exact bt hHeld hg7
          clear hK K
          try simp only [Act.put, List.setIfInBounds_toArray, List.set_cons_zero, List.set_cons_succ]
          refine wpAnyH_ready (rs := [9]) (by kernel_rfl) (by simp) ?_
          refine cons_lit rfl (fun K hK => ?_) ?_
          · go_simp
            refine (hFD _).mono ?_
            rintro e9 w9 ⟨rfl, hg9⟩
            refine hK.out _ _ ?_ (fun hHeld => ?_)
            · exact bt hHeld hg9
            clear hK K
            try simp only [Act.put, List.setIfInBounds_toArray, List.set_cons_zero, List.set_cons_succ]
            refine take_lit (i := 10) (v := ?_) rfl (by kernel_rfl) (by kernel_rfl) (by kernel_rfl) (fun _ _ _ h => h) (Or.inl ⟨by rfl, ?_⟩) (by assumption) ?_
            rotate_left
            · (intro w hSw; (try dsimp only at hSw); go_simp <;> with_reducible rfl)
            try simp only [Act.put, List.setIfInBounds_toArray, List.set_cons_zero, List.set_cons_succ]
            refine take_lit (i := 11) (v := ?_) rfl (by kernel_rfl) (by kernel_rfl) (by kernel_rfl) (fun _ _ _ h => h) (Or.inl ⟨by rfl, ?_⟩) (by assumption) ?_
            rotate_left
            · (intro w hSw; (try dsimp only at hSw); go_simp <;> with_reducible rfl)
            try simp only [Act.put, List.setIfInBounds_toArray, List.set_cons_zero, List.set_cons_succ]
            refine take_lit (i := 12) (v := ?_) rfl (by kernel_rfl) (by kernel_rfl) (by kernel_rfl) (fun _ _ _ h => h) (Or.inl ⟨by rfl, ?_⟩) (by assumption) ?_
            rotate_left
            · (intro w hSw; (try dsimp only at hSw); go_simp <;> with_reducible rfl)
            try simp only [Act.put, List.setIfInBounds_toArray, List.set_cons_zero, List.set_cons_succ]
            refine take_lit (i := 13) (v := ?_) rfl (by kernel_rfl) (by kernel_rfl) (by kernel_rfl) (fun _ _ _ h => h) (Or.inl ⟨by rfl, ?_⟩) (by assumption) ?_
            rotate_left
            · (intro w hSw; (try dsimp only at hSw); go_simp <;> with_reducible rfl)
            try simp only [Act.put, List.setIfInBounds_toArray, List.set_cons_zero, List.set_cons_succ]
            refine take_lit (i := 14) (v := ?_) rfl (by kernel_rfl) (by kernel_rfl) (by kernel_rfl) (fun _ _ _ h => h) (Or.inl ⟨by rfl, ?_⟩) (by assumption) ?_
            rotate_left
            · (intro w hSw; (try dsimp only at hSw); go_simp <;> with_reducible rfl)
            try simp only [Act.put, List.setIfInBounds_toArray, List.set_cons_zero, List.set_cons_succ]
            refine take_lit (i := 15) rfl (by kernel_rfl) (by kernel_rfl) (by kernel_rfl) (fun _ _ _ h => h) (yQ x.e.p (fun w h => (HK.out _ h).1.q) (by rfl) rfl rfl) (by assumption) ?_
            try simp only [Act.put, List.setIfInBounds_toArray, List.set_cons_zero, List.set_cons_succ]
            refine wpAnyH_ready (rs := [16]) (by kernel_rfl) (by simp) ?_
            refine cons_lit rfl (fun K hK => ?_) ?_
            · go_simp
              refine (hFi _ hHeld).mono ?_
              rintro e16 w16 ⟨rfl, hg16⟩
              refine hK.out _ _ ?_ (fun hHeld => ?_)
              · exact bt hHeld hg16
              clear hK K
              try simp only [Act.put, List.setIfInBounds_toArray, List.set_cons_zero, List.set_cons_succ]
              refine take_lit (i := 17) (v := ?_) rfl (by kernel_rfl) (by kernel_rfl) (by kernel_rfl) (fun _ _ _ h => h) (Or.inl ⟨by rfl, ?_⟩) (by assumption) ?_
              rotate_left
              · (intro w hSw; (try dsimp only at hSw); go_simp <;> with_reducible rfl)
              try simp only [Act.put, List.setIfInBounds_toArray, List.set_cons_zero, List.set_cons_succ]
              refine take_lit (i := 18) (v := ?_) rfl (by kernel_rfl) (by kernel_rfl) (by kernel_rfl) (fun _ _ _ h => h) (Or.inl ⟨by rfl, ?_⟩) (by assumption) ?_
              rotate_left
              · (intro w hSw; (try dsimp only at hSw); go_simp <;> with_reducible rfl)
              try simp only [Act.put, List.setIfInBounds_toArray, List.set_cons_zero, List.set_cons_succ]
              refine take_lit (i := 19) (v := ?_) rfl (by kernel_rfl) (by kernel_rfl) (by kernel_rfl) (fun _ _ _ h => h) (Or.inl ⟨by rfl, ?_⟩) (by assumption) ?_
              rotate_left
              · (intro w hSw; (try dsimp only at hSw); go_simp <;> with_reducible rfl)
              try simp only [Act.put, List.setIfInBounds_toArray, List.set_cons_zero, List.set_cons_succ]
              refine wpAnyH_ready (rs := [20]) (by kernel_rfl) (by simp) ?_
              refine cons_lit rfl (fun K hK => ?_) ?_
              · go_simp
                refine (live_any _).mono ?_
                rintro e20 w20 ⟨rfl, hg20⟩
                refine hK.out _ _ ?_ (fun hHeld => ?_)
                · exact bt hHeld hg20
                clear hK K
                try simp only [Act.put, List.setIfInBounds_toArray, List.set_cons_zero, List.set_cons_succ]
                refine take_lit (i := 21) (v := ?_) rfl (by kernel_rfl) (by kernel_rfl) (by kernel_rfl) (fun _ _ _ h => h) (Or.inl ⟨by rfl, ?_⟩) (by assumption) ?_
                rotate_left
                · (intro w hSw; (try dsimp only at hSw); go_simp <;> with_reducible rfl)
                try simp only [Act.put, List.setIfInBounds_toArray, List.set_cons_zero, List.set_cons_succ]
                refine take_lit (i := 22) (v := ?_) rfl (by kernel_rfl) (by kernel_rfl) (by kernel_rfl) (fun _ _ _ h => h) (Or.inl ⟨by rfl, ?_⟩) (by assumption) ?_
                rotate_left
                · (intro w hSw; (try dsimp only at hSw); go_simp <;> with_reducible rfl)
                try simp only [Act.put, List.setIfInBounds_toArray, List.set_cons_zero, List.set_cons_succ]
                refine wpAnyH_done (by kernel_rfl) ?_ _
                refine NoPanic.normal ?_
                have B20 := bt B11 hHeld
                clear HK hMt hFS hFD hFi
                go_wp2_with fail
                go_ret
                exact ⟨rfl, B20⟩
              exact AllReadyH.nil
            exact AllReadyH.nil
          exact AllReadyH.nil
        exact AllReadyH.nil
      exact AllReadyH.nil
theorem long_walk (ad : Option Addr) (c : Nat) (l : List En) (src dst : Ad) (w : World) (m : EsW w ad l) (f : ∀ x ∈ l, x.fit) : Calls Try.prog 4 #[.slice ad l.length c, (Value.agg (acells src).toArray), (Value.agg (acells dst).toArray)] w (Gives w (.bool true)) := by
  by_cases h : 150 < l.length
  · exact long_live ad c l.length src dst w h
  · cases ho : lookR (impF [] l) src dst with
    | none => exact long_none ad c l src dst w m (fun x hx => (f x hx).1) (by omega) ho
    | some x => exact long_some ad c l src dst w m (fun x hx => (f x hx).1) (by omega) ho
end Go.Proofs.Ytadnnjngflphjaa
