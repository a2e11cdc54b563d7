/-
  The law PacketEnds returns true for every address and every two slices of bytes: what Parse tells may be, and it hangs not on what stands behind the body; its arguments read as before. No condition.
-/
import Derived.Test.YtognnfknbkedgaaM21
import Derived.Test.YtognnfknbkedgaaM23
import Derived.OpenShut
import Derived.ChangeOld
import Derived.Below
import Derived.SizedLaws
import Derived.Deep.SlicePairs
namespace Go.Proofs.Ytognnfknbkedgaa
open Go.RowKit
set_option linter.unusedSimpArgs false
set_option maxRecDepth 20000

theorem ends_op (a b c d : UInt8) (r m : List UInt8) (h : r.length = c.toNat * 256 + d.toNat) : opE ((a :: b :: c :: d :: r) ++ m) = opE (a :: b :: c :: d :: r) ∧ opB ((a :: b :: c :: d :: r) ++ m) = opB (a :: b :: c :: d :: r) := by
  have e : opE (a :: b :: c :: d :: (r ++ m)) = opE (a :: b :: c :: d :: r) := by
    simp only [opE]
    rw [if_neg (show ¬ (r ++ m).length < c.toNat * 256 + d.toNat by simp; omega), if_neg (show ¬ r.length < c.toNat * 256 + d.toNat by omega)]
  refine ⟨e, ?_⟩
  show opB (a :: b :: c :: d :: (r ++ m)) = _
  unfold opB
  rw [e]
  simp only
  rw [← h, List.take_left, List.take_of_length_le (Nat.le_refl _)]
theorem ends_par (src : Ad) (a b c d : UInt8) (r m : List UInt8) (h : r.length = c.toNat * 256 + d.toNat) : parE ((a :: b :: c :: d :: r) ++ m) = parE (a :: b :: c :: d :: r) ∧ parL src ((a :: b :: c :: d :: r) ++ m) = parL src (a :: b :: c :: d :: r) := by
  obtain ⟨h1, h2⟩ := ends_op a b c d r m h
  unfold parE parL
  rw [h1, h2]
  exact ⟨rfl, rfl⟩
/-- What Parse answers of bytes. -/
structure ToldL (w : World) (a : Option Addr) (n : Nat) (ts : List Tl) (src : Ad) (l : List UInt8) : Prop where
  key : ts.map Tl.key = parL src l
  tlw : TlW w a n ts
  le : n ≤ 100000
  st : ∀ t ∈ ts, t.st.length ≤ 100000
  chk : ∀ t ∈ ts, chkT t.key = 0
theorem ToldL.below {w w' : World} {a : Option Addr} {n : Nat} {ts : List Tl} {src : Ad} {l : List UInt8} (h : ToldL w a n ts src l) (hb : Below w.heap.size w w') : ToldL w' a n ts src l := ⟨h.key, h.tlw.below hb, h.le, h.st, h.chk⟩
theorem parse_l (src : Ad) (l : List UInt8) {W : World} {a : Option Addr} {n c : Nat} (hs : Src W a n c (bcells l)) (hn : n ≤ 100000) :
    Calls Try.prog 14 #[(Value.agg (acells src).toArray), .slice a n c] W fun e w' => ∃ a c N ts, e = .returned (.tuple #[.slice a N c, .int .i64 (parE l)]) ∧ ToldL w' a N ts src l ∧ Below W.heap.size W w' := by
  refine (parse_any src a n c _ W hs hn).mono ?_
  rintro e w' ⟨a, c, ts, rfl, hk, hl, ht, hbl⟩
  have hlen : l.length ≤ 100000 := by have := hs.blen; omega
  refine ⟨a, c, ts.length, ts, rfl, ⟨hk, ht.tlw, by omega, fun t h => ?_, fun t h => ?_⟩, hbl⟩
  · exact tellL_st (splL (opB l)).1 (bgS src) t.key (by have : t.key ∈ parL src l := by rw [← hk]; exact List.mem_map_of_mem h
                                                        exact this)
  · exact tellL_chk (splL (opB l)).1 (bgS src) t.key (by have : t.key ∈ parL src l := by rw [← hk]; exact List.mem_map_of_mem h
                                                         exact this)
theorem run_bs0 (w : World) : (Instr.buildSlice 40 0 #[]).run Try.prog w = .ok (.slice (some ⟨w.heap.size, 0, none⟩) 0 0) (w.alloc (.cells #[] 5)) := by kernel_rfl
section
variable {ops : Array Oper} {op : Oper} {a : Act} {w : World} {K : Act → World → Prop} {Q : Exit → Act → World → Prop} {E : Prop}
theorem sBs0 (hw : Region.wanted op (yielded ops a.tmps) = true) (ho : op.op = .buildSlice 40 0 #[])
    (h : ∀ v W, W.ownsRow w.heap.size 5 1 v 0 (bcells []) → Below w.heap.size w W → K (a.put op.dst v) W) : if Region.wanted op (yielded ops a.tmps) = true then Oper.wp Try.prog op a w K Q else E := by
  rw [if_pos hw]
  unfold Oper.wp execOp
  simp only [ho, List.map_toArray, List.map_nil, Sem.run_bind, run_bs0, Result.andThen_ok, Sem.run_pure]
  exact h _ _ (World.ownsRow_made w #[] 0 (Nat.le_refl _) (by unfold maxLen; omega) rfl) (ba _ _)
theorem sAppB (s x : Operand) (hw : Region.wanted op (yielded ops a.tmps) = true)
    (ho : op.op = .call { callee := .builtin .append, args := #[s, x], argTypes := #[40, 40] })
    (base : Nat) (v : Value) (n : Nat) (l : List UInt8) (hs : a.eval s = v) (hown : w.ownsRow base 5 1 v n (bcells l))
    (ad : Option Addr) (m c : Nat) (k : List UInt8) (hx : a.eval x = .slice ad m c) (hsrc : Src w ad m c (bcells k))
    (hbytes : n + m ≤ 140737488355328) (hbase : base ≤ w.heap.size)
    (h : ∀ v' w', w'.ownsRow base 5 1 v' (n + m) (bcells (l ++ k)) → w.grownBy w' v.ownBlock → K (a.put op.dst v') w') : if Region.wanted op (yielded ops a.tmps) = true then Oper.wp Try.prog op a w K Q else E := by
  rw [if_pos hw]
  obtain ⟨i0, hi, hz0, hz1, hz2⟩ := info_parts info5
  cases ad with
  | some ad => exact wp_append_own w s x 40 ho base 5 i0 (.int .u8 0) 1 1 Try.underlying40 hi hz0 hz1 hz2 rfl (by decide) v n (bcells l) hs hown ad m c (bcells k) hx (by simp [hsrc.len]) (hsrc.cell ad rfl) (bcells_one k) (by unfold maxLen; omega) (by omega) hbase (fun v' w' h1 h2 _ => h v' w' (by rw [bcells_append]; exact h1) h2)
  | none =>
    obtain ⟨rfl, rfl⟩ := hsrc.bare rfl
    have hn : k = [] := by have := hsrc.blen; exact List.eq_nil_of_length_eq_zero this.symm
    subst hn
    have hrun := run_append_owned_none (P := Try.prog) (w := w) base 40 op.type 5 i0 1 Try.underlying40 hi _ n (bcells l) hown
    unfold Oper.wp
    simp [execOp, ho, resolve, invoke, builtin, hs, hx, hrun, Result.andThen]
    exact h v w (by simpa using hown) (World.grownBy.refl _ _)
end
theorem ldTe {ops : Array Oper} {rest : List Oper} {op : Oper} {a : Act} {w : World} {Q : Exit → Act → World → Prop} (x : Operand) (hw : Region.wanted op (yielded ops a.tmps) = true) (ho : op.op = .load 33 x) (b o : Nat) (t : Tl) (hx : a.eval x = .pointer (some ⟨b, o, none⟩)) (hc : w.rangeAt b o (tcells t))
    (h : wpList Try.prog ops Q rest (a.put op.dst (.agg (tcells t).toArray)) w) : wpList Try.prog ops Q (op :: rest) a w :=
  wpList_step fun K hK => by
    rw [if_pos hw]
    exact wp_load_mid _ x ho b o hx (tcells t) _ hc Try.underlying33 rfl (by rw [infoTs, tcells_len]) (hK _ _ h)
theorem ends_long (src : Ad) (a0 : Option Addr) (n0 c0 : Nat) (a1 : Option Addr) (n1 c1 : Nat) (w : World) (k0 : n0 ≤ 140737488355328) (k1 : n1 ≤ 140737488355328) (h : 5000 < n0 + n1) :
    Calls Try.prog 4 #[(Value.agg (acells src).toArray), .slice a0 n0 c0, .slice a1 n1 c1] w fun e w' => e = .returned (.bool true) ∧ Below w.heap.size w w' := by
  have h0' : (5000 : Int) < (n0 : Int) + (n1 : Int) := by omega
  have y1 : IntKind.i64.wrap ((n0 : Int) + (n1 : Int)) = (n0 : Int) + (n1 : Int) := by rw [IntKind.wrap_i64]; omega
  clear h
  go_enter Try.func4, Try.ntmps4
  go_wp2_with (go_at_call 8; refine (live_any _).mono ?_; rintro e w' ⟨rfl, hw⟩)
  go_ret
  exact ⟨rfl, bt (ba _ _) hw⟩
/-- What holds behind the first Parse. -/
structure En (w W : World) (src : Ad) (a0 : Option Addr) (n0 c0 : Nat) (l0 : List UInt8) (a1 : Option Addr) (n1 c1 : Nat) (l1 : List UInt8) (pa : Option Addr) (N : Nat) (ts : List Tl) : Prop where
  bel : Below w.heap.size w W
  rS : Row W w.heap.size 26 (acells src)
  s0 : Src W a0 n0 c0 (bcells l0)
  s1 : Src W a1 n1 c1 (bcells l1)
  told : ToldL W pa N ts src l0
theorem En.below {w W W' : World} {src : Ad} {a0 : Option Addr} {n0 c0 : Nat} {l0 : List UInt8} {a1 : Option Addr} {n1 c1 : Nat} {l1 : List UInt8} {pa : Option Addr} {N : Nat} {ts : List Tl} (h : En w W src a0 n0 c0 l0 a1 n1 c1 l1 pa N ts) (hb : Below W.heap.size W W') : En w W' src a0 n0 c0 l0 a1 n1 c1 l1 pa N ts :=
  ⟨bt h.bel hb, h.rS.below hb h.rS.lt, Src.below h.s0 hb (Src.lt h.s0), Src.below h.s1 hb (Src.lt h.s1), h.told.below hb⟩
theorem hm23 {w : World} {ad : Addr} {n c : Nat} {m v x y : UInt8} {r : List UInt8} (hs : Src w (some ad) n c (bcells (m :: v :: x :: y :: r))) : w.cell? { block := ad.block, off := ad.off + 2 } = some (.int .u8 (x.toNat : Int)) ∧ w.cell? { block := ad.block, off := ad.off + 3 } = some (.int .u8 (y.toNat : Int)) := by
  have c2 := hs.byteAt 2 (by simp)
  have c3 := hs.byteAt 3 (by simp)
  simp at c2 c3
  simp [Addr.add] at c2 c3
  exact ⟨c2, c3⟩
set_option maxHeartbeats 4000000 in
theorem ends_walk (src : Ad) (a0 : Option Addr) (n0 c0 : Nat) (l0 : List UInt8) (a1 : Option Addr) (n1 c1 : Nat) (l1 : List UInt8) (w : World) (h0 : Src w a0 n0 c0 (bcells l0)) (h1 : Src w a1 n1 c1 (bcells l1)) (h : n0 + n1 ≤ 5000) :
    Calls Try.prog 4 #[(Value.agg (acells src).toArray), .slice a0 n0 c0, .slice a1 n1 c1] w fun e w' => e = .returned (.bool true) ∧ Below w.heap.size w w' := by
  have h0' : ¬ (5000 : Int) < (n0 : Int) + (n1 : Int) := by omega
  have y1 : IntKind.i64.wrap ((n0 : Int) + (n1 : Int)) = (n0 : Int) + (n1 : Int) := by rw [IntKind.wrap_i64]; omega
  have HN : Hid (n0 + n1 ≤ 5000 ∧ n0 = l0.length ∧ n1 = l1.length) := ⟨h, h0.blen, h1.blen⟩
  obtain ⟨E0, hE0⟩ : ∃ E, parE l0 = E := ⟨_, rfl⟩
  have HE0 : Hid (parE l0 = E0) := hE0
  have HP : Hid (∀ W, Src W a0 n0 c0 (bcells l0) → Calls Try.prog 14 #[(Value.agg (acells src).toArray), .slice a0 n0 c0] W fun e w' => ∃ a c N ts, e = .returned (.tuple #[.slice a N c, .int .i64 E0]) ∧ ToldL w' a N ts src l0 ∧ Below W.heap.size W w') := fun W hs => by
    rw [← HE0.out]
    exact parse_l src l0 hs (by have := HN.out; omega)
  clear hE0 h
  have R0 := Row.new w 26 (acells src)
  have B0 := ba w (.cells (acells src).toArray 26)
  go_enter Try.func4, Try.ntmps4
  go_wp2_with (first
    | (go_at_call 14; refine (HP.out _ (Src.below h0 B0 (Src.lt h0))).mono ?_; rintro e w1 ⟨pa, pc, N, ts, rfl, hT, b1⟩)
    | (refine ldA (.tmp 3) (by rfl) rfl w.heap.size 0 src rfl R0.range ?_))
  have H1 : En w w1 src a0 n0 c0 l0 a1 n1 c1 l1 pa N ts := ⟨bt B0 b1, R0.below b1 R0.lt, Src.below (Src.below h0 B0 (Src.lt h0)) b1 (Src.lt (Src.below h0 B0 (Src.lt h0))), Src.below (Src.below h1 B0 (Src.lt h1)) b1 (Src.lt (Src.below h1 B0 (Src.lt h1))), hT⟩
  clear h0 h1 R0 B0 b1 hT HP
  go_loopw [9] (fun i wr => ∃ j : Nat, j ≤ N ∧ i = .int .i64 j ∧ Below w1.heap.size w1 wr) (fun i _ => N - (intOf i).toNat)
  case atStart => exact ⟨0, Nat.zero_le _, rfl, Below.refl _ _⟩
  case round =>
    obtain ⟨j, hj, rfl, hb⟩ := hrel
    have H := H1.below hb
    have hNl : Hid (ts.length = N ∧ N ≤ 100000) := ⟨H.told.tlw.len, H.told.le⟩
    by_cases hlt : j < N
    · have hlt' : (j : Int) < (N : Int) := by omega
      have hjk : j < ts.length := by have := hNl.out; omega
      obtain ⟨g, o, rfl, _, hr⟩ := H.told.tlw.at hjk
      have hm : ts[j] ∈ ts := List.getElem_mem hjk
      have hsn : ts[j].sn ≤ 100000 := by rw [TSrc.len (H.told.tlw.stms _ hm)]; exact H.told.st _ hm
      have HC : Hid (Calls Try.prog 10 #[.agg (tcells ts[j]).toArray] wr fun e w' => e = .returned (.int .i64 0) ∧ Below wr.heap.size wr w') := by
        have := checkT_any ts[j] wr (H.told.tlw.stms _ hm) hsn
        rw [H.told.chk _ hm] at this
        exact this
      have HW : Hid (wrap64 ((j : Int) + 1) = ((j + 1 : Nat) : Int)) := by show _ = _; have := hNl.out; simp only [wrap64]; omega
      generalize ts[j] = t at *
      clear hsn hm hjk
      go_wp2_with (first
        | (go_at_call 9; refine (num6 _ _).mono ?_; rintro e wn ⟨rfl, rfl⟩)
        | (go_at_call 10; refine HC.out.mono ?_; rintro e w2 ⟨rfl, b2⟩)
        | (refine ldTe (.tmp 33) (by rfl) rfl g (o + j * 68) t rfl hr ?_))
      go_roundw
      case rel => exact ⟨j + 1, by omega, by rw [HW.out], bt hb b2⟩
      case measure => (simp only [HW.out]; first | (simp [intOf]; done) | (simp [intOf]; omega))
    · have hlt' : ¬ (j : Int) < (N : Int) := by omega
      obtain rfl : N = j := by omega
      by_cases k4 : n0 < 4
      · have k4' : (n0 : Int) < 4 := by omega
        go_wp2
        go_quiet (fail)
        have HB := below_drewN H.bel nq
        go_wp2_with (go_at_call 8; refine (live_any _).mono ?_; rintro e w9 ⟨rfl, b9⟩)
        go_ret
        exact ⟨rfl, bt HB b9⟩
      · have k4' : ¬ (n0 : Int) < 4 := by omega
        match l0, a0 with
        | [], _ => exact absurd HN.out.2.1 (by simp; omega)
        | [_], _ => exact absurd HN.out.2.1 (by simp; omega)
        | [_, _], _ => exact absurd HN.out.2.1 (by simp; omega)
        | [_, _, _], _ => exact absurd HN.out.2.1 (by simp; omega)
        | _ :: _ :: _ :: _ :: _, none => exact absurd (H.s0.bare rfl).1 (by omega)
        | A :: B :: C :: D :: r, some ad =>
          obtain ⟨c2, c3⟩ := hm23 H.s0
          obtain ⟨X, hX⟩ : ∃ X, C.toNat = X := ⟨_, rfl⟩
          obtain ⟨Y, hY⟩ : ∃ X, D.toNat = X := ⟨_, rfl⟩
          rw [hX] at c2
          rw [hY] at c3
          have X8 : X < 256 := by rw [← hX]; exact C.toNat_lt
          have Y8 : Y < 256 := by rw [← hY]; exact D.toNat_lt
          have wX : IntKind.i64.wrap (X : Int) = (X : Int) := by rw [IntKind.wrap_i64]; omega
          have wY : IntKind.i64.wrap (Y : Int) = (Y : Int) := by rw [IntKind.wrap_i64]; omega
          have k2 : (2 : Int) < (n0 : Int) := by omega
          have k3 : (3 : Int) < (n0 : Int) := by omega
          have w1' : IntKind.i64.wrap ((X : Int) * 256) = (X : Int) * 256 := by rw [IntKind.wrap_i64]; omega
          have w2' : IntKind.i64.wrap (4 + (X : Int) * 256) = 4 + (X : Int) * 256 := by rw [IntKind.wrap_i64]; omega
          have w3' : IntKind.i64.wrap (4 + (X : Int) * 256 + (Y : Int)) = 4 + (X : Int) * 256 + (Y : Int) := by rw [IntKind.wrap_i64]; omega
          by_cases hq : n0 = 4 + X * 256 + Y
          · have hqb : ((n0 : Int) != 4 + (X : Int) * 256 + (Y : Int)) = false := by simp; omega
            have PE := ends_par src A B C D r l1 (by have := HN.out.2.1; simp at this; rw [hX, hY]; omega)
            have hkey := H.told.key
            have htl := H.told.tlw.len
            have HP2 : Hid (∀ W a c, Src W a (n0 + n1) c (bcells ([] ++ (A :: B :: C :: D :: r) ++ l1)) → Calls Try.prog 14 #[(Value.agg (acells src).toArray), .slice a (n0 + n1) c] W fun e w' => ∃ a c us, e = .returned (.tuple #[.slice a N c, .int .i64 E0]) ∧ ts.map Tl.key = us.map Tl.key ∧ TlW w' a N us ∧ Below W.heap.size W w') := fun W a c hs => by
              refine (parse_l src _ hs (by have := HN.out; omega)).mono ?_
              rintro e w' ⟨a', c', M, us, rfl, hU, hb⟩
              have hk2 : ts.map Tl.key = us.map Tl.key := hkey.trans (PE.2.symm.trans hU.key.symm)
              have hl2 := congrArg List.length hk2
              simp only [List.length_map] at hl2
              have hl3 := hU.tlw.len
              obtain rfl : M = N := by omega
              have e1 : parE ([] ++ (A :: B :: C :: D :: r) ++ l1) = E0 := PE.1.trans HE0.out
              rw [e1]
              exact ⟨a', c', us, rfl, hk2, hU.tlw, hb⟩
            clear hq hX hY PE hkey htl HE0
            go_wp2
            go_quiet (fail)
            go_wp2
            refine name_world (R := fun W => Code.wp _ _ _ _ W) (P := fun W => Below w1.heap.size w1 W) _ (by exact below_drewN hb _) ?_
            intro V HV
            have HX := bt HV (bd V)
            have H0 : Hid (∀ W, Below w1.heap.size w1 W → Row W w.heap.size 26 (acells src)) := fun W hW => (H1.below hW).rS
            clear H HV hb
            refine wp_region_noPanic ?_
            refine wp_region_held_drew (S := fun W => Below w1.heap.size w1 W) (by kernel_rfl) (HX) (fun hHeld => ?_)
            refine take_lit (i := 0) rfl (by kernel_rfl) (by kernel_rfl) (by kernel_rfl) (fun _ _ _ h => h) (yA src (fun W hW => (H0.out W hW).range) (by rfl) rfl rfl) (by assumption) ?_
            try simp only [Act.put, List.setIfInBounds_toArray, List.set_cons_zero, List.set_cons_succ]
            refine take_lit (i := 2) (v := ?_) rfl (by kernel_rfl) (by kernel_rfl) (by kernel_rfl) (fun _ _ _ h => h) (Or.inl ⟨by rfl, ?_⟩) (by assumption) ?_
            rotate_left
            · (intro w hSw; (try dsimp only at hSw); go_simp <;> with_reducible rfl)
            try simp only [Act.put, List.setIfInBounds_toArray, List.set_cons_zero, List.set_cons_succ]
            refine take_lit (i := 4) (v := ?_) rfl (by kernel_rfl) (by kernel_rfl) (by kernel_rfl) (fun _ _ _ h => h) (Or.inl ⟨by rfl, ?_⟩) (by assumption) ?_
            rotate_left
            · (intro w hSw; (try dsimp only at hSw); go_simp <;> with_reducible rfl)
            try simp only [Act.put, List.setIfInBounds_toArray, List.set_cons_zero, List.set_cons_succ]
            refine wpAnyH_ready (rs := [1]) (by kernel_rfl) (by simp) ?_
            refine cons_lit rfl (fun K hK => ?_) ?_
            · skip
              refine sBs0 (by rfl) rfl ?_
              intro v1 x1 o1 d1
              replace o1 := own_le o1 HX.size
              replace HX := bt HX d1
              clear d1
              refine hK.out _ _ ?_ (fun hHeld => ?_)
              · exact HX
              clear hK K
              try simp only [Act.put, List.setIfInBounds_toArray, List.set_cons_zero, List.set_cons_succ]
              refine wpAnyH_ready (rs := [3]) (by kernel_rfl) (by simp) ?_
              refine cons_lit rfl (fun K hK => ?_) ?_
              · skip
                refine sAppB (.tmp 60) (.tmp 61) (by rfl) rfl w1.heap.size v1 0 [] rfl o1 (some ad) n0 c0 (A :: B :: C :: D :: r) rfl (H1.below HX).s0 (by have := HN.out; omega) HX.size ?_
                intro v3 x3 o3 g3
                replace HX := HX.grown g3 HX.size (fun k hk => (o1.lt k hk).1)
                clear o1 g3
                refine hK.out _ _ ?_ (fun hHeld => ?_)
                · exact HX
                clear hK K
                try simp only [Act.put, List.setIfInBounds_toArray, List.set_cons_zero, List.set_cons_succ]
                refine wpAnyH_ready (rs := [5]) (by kernel_rfl) (by simp) ?_
                refine cons_lit rfl (fun K hK => ?_) ?_
                · skip
                  refine sAppB (.tmp 62) (.tmp 63) (by rfl) rfl w1.heap.size v3 (0 + n0) ([] ++ (A :: B :: C :: D :: r)) rfl o3 a1 n1 c1 l1 rfl (H1.below HX).s1 (by have := HN.out; omega) HX.size ?_
                  intro v5 x5 o5 g5
                  rw [Nat.zero_add] at o5
                  replace HX := HX.grown g5 HX.size (fun k hk => (o3.lt k hk).1)
                  obtain ⟨a5, c5, rfl⟩ := own_shape o5
                  replace o5 := own_srcP o5
                  clear o3 g5
                  refine hK.out _ _ ?_ (fun hHeld => ?_)
                  · exact HX
                  clear hK K
                  try simp only [Act.put, List.setIfInBounds_toArray, List.set_cons_zero, List.set_cons_succ]
                  refine wpAnyH_ready (rs := [6]) (by kernel_rfl) (by simp) ?_
                  refine cons_lit rfl (fun K hK => ?_) ?_
                  · go_simp
                    refine (HP2.out _ _ _ o5).mono ?_
                    rintro e x6 ⟨a6, c6, us, rfl, hk6, t6, d6⟩
                    replace HX := bt HX d6
                    clear d6 o5
                    refine hK.out _ _ ?_ (fun hHeld => ?_)
                    · exact HX
                    clear hK K
                    try simp only [Act.put, List.setIfInBounds_toArray, List.set_cons_zero, List.set_cons_succ]
                    refine take_lit (i := 7) (v := ?_) rfl (by kernel_rfl) (by kernel_rfl) (by kernel_rfl) (fun _ _ _ h => h) (Or.inl ⟨by rfl, ?_⟩) (by assumption) ?_
                    rotate_left
                    · (intro w hSw; (try dsimp only at hSw); go_simp <;> with_reducible rfl)
                    try simp only [Act.put, List.setIfInBounds_toArray, List.set_cons_zero, List.set_cons_succ]
                    refine take_lit (i := 8) (v := ?_) rfl (by kernel_rfl) (by kernel_rfl) (by kernel_rfl) (fun _ _ _ h => h) (Or.inl ⟨by rfl, ?_⟩) (by assumption) ?_
                    rotate_left
                    · (intro w hSw; (try dsimp only at hSw); go_simp <;> with_reducible rfl)
                    try simp only [Act.put, List.setIfInBounds_toArray, List.set_cons_zero, List.set_cons_succ]
                    refine take_lit (i := 9) (v := ?_) rfl (by kernel_rfl) (by kernel_rfl) (by kernel_rfl) (fun _ _ _ h => h) (Or.inl ⟨by rfl, ?_⟩) (by assumption) ?_
                    rotate_left
                    · (intro w hSw; (try dsimp only at hSw); go_simp <;> with_reducible rfl)
                    try simp only [Act.put, List.setIfInBounds_toArray, List.set_cons_zero, List.set_cons_succ]
                    refine take_lit (i := 10) (v := ?_) rfl (by kernel_rfl) (by kernel_rfl) (by kernel_rfl) (fun _ _ _ h => h) (Or.inl ⟨by rfl, ?_⟩) (by assumption) ?_
                    rotate_left
                    · (intro w hSw; (try dsimp only at hSw); go_simp <;> with_reducible rfl)
                    try simp only [Act.put, List.setIfInBounds_toArray, List.set_cons_zero, List.set_cons_succ]
                    refine take_lit (i := 11) (v := ?_) rfl (by kernel_rfl) (by kernel_rfl) (by kernel_rfl) (fun _ _ _ h => h) (Or.inl ⟨by rfl, ?_⟩) (by assumption) ?_
                    rotate_left
                    · (intro w hSw; (try dsimp only at hSw); go_simp <;> with_reducible rfl)
                    try simp only [Act.put, List.setIfInBounds_toArray, List.set_cons_zero, List.set_cons_succ]
                    refine wpAnyH_done (by kernel_rfl) ?_ _
                    refine NoPanic.normal ?_
                    clear hHeld
                    have HS : Hid (Calls Try.prog 15 #[.slice pa N pc, .slice a6 N c6] x6 fun e w' => e = .returned (.bool true) ∧ Below x6.heap.size x6 w') := sames_true pa a6 N pc c6 ts us x6 (H1.below HX).told.tlw t6 hk6 H1.told.le H1.told.st
                    have B6 := bt H1.bel HX
                    clear HX hk6 t6 H0
                    go_wp2_with (first
                      | (go_at_call 9; refine (num6 _ _).mono ?_; rintro e wn ⟨rfl, rfl⟩)
                      | (go_at_call 15; refine HS.out.mono ?_; rintro e w6 ⟨rfl, b6⟩)
                      | (go_at_call 8; refine (live_any _).mono ?_; rintro e w5 ⟨rfl, b5⟩))
                    go_ret
                    exact ⟨rfl, bt (bt B6 b6) b5⟩
                  exact AllReadyH.nil
                exact AllReadyH.nil
              exact AllReadyH.nil
            exact AllReadyH.nil
          · have hqb : ((n0 : Int) != 4 + (X : Int) * 256 + (Y : Int)) = true := by simp; omega
            clear hq hX hY
            go_wp2
            go_quiet (fail)
            have HB := below_drewN H.bel nq
            go_wp2_with (go_at_call 8; refine (live_any _).mono ?_; rintro e w9 ⟨rfl, b9⟩)
            go_ret
            exact ⟨rfl, bt HB b9⟩
theorem ends_any (src : Ad) (a0 : Option Addr) (n0 c0 : Nat) (l0 : List UInt8) (a1 : Option Addr) (n1 c1 : Nat) (l1 : List UInt8) (w : World) (h0 : Src w a0 n0 c0 (bcells l0)) (h1 : Src w a1 n1 c1 (bcells l1)) (k0 : n0 ≤ 140737488355328) (k1 : n1 ≤ 140737488355328) :
    Calls Try.prog 4 #[(Value.agg (acells src).toArray), .slice a0 n0 c0, .slice a1 n1 c1] w fun e w' => e = .returned (.bool true) ∧ Below w.heap.size w w' := by
  by_cases h : 5000 < n0 + n1
  · exact ends_long src a0 n0 c0 a1 n1 c1 w k0 k1 h
  · exact ends_walk src a0 n0 c0 l0 a1 n1 c1 l1 w h0 h1 (by omega)
end Go.Proofs.Ytognnfknbkedgaa

namespace Go.Proofs.Ytognnfknbkedgaa
open Go.RowKit Go.ChangeShapes Go.WideShapes Go.ChangeAt Go.Deep
set_option maxRecDepth 100000
theorem own : ownKnob Try.prog.godebug = none := by kernel_rfl
theorem laid_out : laidOutB Try.prog = true := by kernel_rfl
/-- What a walk is told of a slice of integers that came in: it is nil; or it leads to a row of 'cap' cells, the numbers 'zs' (the first 'len' are its elements, the rest its spare room), each fitting its kind. -/
def IsRow (k : IntKind) (w : World) (a : Option Addr) (len cap : Nat) (zs : List Int) : Prop :=
  (a = none ∧ len = 0 ∧ cap = 0 ∧ zs = []) ∨
  ∃ x, a = some x ∧ len ≤ cap ∧ cap ≤ maxLen ∧ zs.length = cap ∧ (∀ i, i < zs.length → w.cell? (x.add i) = some (.int k (zs.getD i 0))) ∧ ∀ n ∈ zs, (Lit.int k n).wf = true

theorem IsRow.src {k : IntKind} {w : World} {a : Option Addr} {len cap : Nat} {zs : List Int} (h : IsRow k w a len cap zs) : Src w a len cap ((zs.take len).map (Value.int k)) ∧ (∀ n ∈ zs, (Lit.int k n).wf = true) ∧ len ≤ maxLen := by
  rcases h with ⟨rfl, rfl, rfl, rfl⟩ | ⟨x, rfl, h1, h2, h3, h4, h5⟩
  · exact ⟨Src.nil w, by simp, by unfold maxLen; omega⟩
  · refine ⟨⟨by simp; omega, (fun h => by cases h), fun ad had j u hu => ?_⟩, h5, Nat.le_trans h1 h2⟩
    cases had
    have hj : j < ((zs.take len).map (Value.int k)).length := (List.getElem?_eq_some_iff.1 hu).1
    simp at hj
    rw [h4 j (by omega)]
    rw [List.getElem?_map, List.getElem?_take_of_lt (by omega), List.getElem?_eq_getElem (by omega)] at hu
    simp at hu
    simp [List.getD, List.getElem?_eq_getElem (show j < zs.length by omega), hu]

theorem IsRow.le {k : IntKind} {w : World} {a : Option Addr} {len cap : Nat} {zs : List Int} (h : IsRow k w a len cap zs) : len ≤ cap := by
  rcases h with ⟨_, h1, h2, _⟩ | ⟨_, _, h1, _⟩
  · omega
  · exact h1

theorem IsRow.bytes {w : World} {a : Option Addr} {len cap : Nat} {zs : List Int} (h : IsRow .u8 w a len cap zs) : ∃ l, Src w a len cap (bcells l) := by
  obtain ⟨h1, h2, _⟩ := h.src
  refine ⟨(zs.take len).map fun z => UInt8.ofNat z.toNat, ?_⟩
  have e : bcells ((zs.take len).map fun z => UInt8.ofNat z.toNat) = (zs.take len).map (Value.int .u8) := by
    unfold bcells
    rw [List.map_map]
    refine List.map_congr_left fun z hz => ?_
    have hb := bounds_u8 (h2 z (List.mem_of_mem_take hz))
    simp
    omega
  rw [e]
  exact h1

section
variable {H : Type} {enc : TypeId × Value → H} {w : World} {base : Nat} {held : Bool} {r : Reach} {b0 : Nat} {v : Value} {d : DataW H} {p : List MemPlace}
/-- .. and how its reading bounds its length. -/
theorem openW (hv : Value.okWide Try.prog w r b0 40 v) (h : DataW.Trod enc Try.prog w base (fun _ => true) held 40 v d p) : ∃ (a : Option Addr) (len cap : Nat) (l : List UInt8), v = .slice a len cap ∧ Src w a len cap (bcells l) ∧ len ≤ cap ∧ (len = 0 ∨ ∃ es sp, d = .slice es sp ∧ len ≤ es.length + sp.length) := by
  obtain ⟨a, len, cap, rfl⟩ := okWide_slice Try.underlying40 hv
  obtain ⟨fuel, hf⟩ := h
  rcases open_ints Try.underlying40 Try.underlying5 (by kernel_rfl) hf with ⟨hcs, _⟩ | ⟨x, l, c, zs, hcs, _, hl, hm, hz, hx, hcell, hwz⟩
  · simp [Value.cells] at hcs
    obtain ⟨rfl, rfl, rfl⟩ := hcs
    exact ⟨none, 0, 0, [], rfl, Src.nil w, Nat.le_refl _, .inl rfl⟩
  · simp [Value.cells] at hcs
    obtain ⟨rfl, rfl, rfl⟩ := hcs
    obtain ⟨L, hL⟩ := IsRow.bytes (w := w) (a := some x) (len := len) (cap := cap) (zs := zs) (.inr ⟨_, rfl, hl, hm, by simpa using hz, hcell, hwz⟩)
    have hz' : zs.length = cap := by simpa using hz
    refine ⟨some x, len, cap, L, rfl, hL, hl, .inr ⟨_, _, (Prod.mk.inj hx).1, ?_⟩⟩
    simp [lits]
    omega
end
/-- A slice of bytes that takes no more than the form's reach. -/
theorem short_of {H : Type} {P : Program} {ts : List TypeId} {ds : List (DataW H)} (h : (DataW.weightsEach P ts ds).all (· ≤ reachBytes) = true) {j : Nat} {t e : TypeId} {d : DataW H} {len : Nat} (ht : ts[j]? = some t) (hd : ds[j]? = some d) (hu : P.underlying t = some (.slice e)) (h1 : P.bytesOf e = 1) (hl : len = 0 ∨ ∃ es sp, d = .slice es sp ∧ len ≤ es.length + sp.length) : len ≤ 140737488355328 := by
  rcases hl with rfl | ⟨es, sp, rfl, hl⟩
  · omega
  · have := sized_slice h ht hd hu
    rw [h1] at this
    have h2 : reachBytes < 2 ^ 47 := reachBytes_lt
    omega
theorem okWide_arr {P : Program} {w : World} {r : Reach} {b t n : Nat} {e : TypeId} {v : Value} (ht : P.underlying t = some (.array n e)) (h : Value.okWide P w r b t v) : ∃ cs, v = .agg cs := by
  simp only [Value.okWide, ht] at h
  obtain ⟨cs, h1, _⟩ := h
  exact ⟨cs, h1⟩
section
variable {H : Type} {enc : TypeId × Value → H} {w : World} {base : Nat} {spare : Nat → Bool} {held : Bool}
theorem bytes_of (m : Nat) : ∀ (cs : List Value) (xs : List (DataW H × List MemPlace)), cs.length = xs.length → (∀ i, i < xs.length → DataW.trod enc Try.prog w base spare held m 5 ((cs.drop i).take 1) = xs[i]?) → ∃ l : List UInt8, cs = bcells l
  | [], _, _, _ => ⟨[], rfl⟩
  | c :: r, [], h, _ => by simp at h
  | c :: r, x :: ys, h, k => by
    obtain ⟨l, rfl⟩ := bytes_of m r ys (by simpa using h) (fun i hi => by have := k (i + 1) (by simp; omega); simpa using this)
    obtain ⟨n, e1, _, hw⟩ := DataW.trod_int Try.underlying5 (show DataW.trod enc Try.prog w base spare held m 5 [c] = some x by simpa using k 0 (by simp))
    obtain ⟨h0, h1⟩ := bounds_u8 hw
    simp only [List.cons.injEq, and_true] at e1
    refine ⟨UInt8.ofNat n.toNat :: l, ?_⟩
    rw [e1]
    show _ = Value.int .u8 ((UInt8.ofNat n.toNat).toNat : Int) :: bcells l
    have : (UInt8.ofNat n.toNat).toNat = n.toNat := by simp; omega
    rw [this]
    congr 2
    omega
theorem cellsA : Try.prog.cellsOf 26 = 16 := by kernel_rfl
theorem cells_u8 : Try.prog.cellsOf 5 = 1 := by kernel_rfl
theorem ad_of {fuel : Nat} {cs : List Value} {x : DataW H × List MemPlace} (h : DataW.trod enc Try.prog w base spare held fuel 26 cs = some x) : ∃ a : Ad, cs = acells a := by
  obtain ⟨xs, m, _, _, hl, hn, hel⟩ := DataW.trod_array Try.underlying26 h
  rw [cells_u8] at hel
  obtain ⟨l, rfl⟩ := bytes_of m cs xs (by rw [hl, hn, cellsA]) (fun i hi => by have := hel i (by omega); rwa [Nat.mul_one] at this)
  exact ⟨⟨l, by rw [bcells_length, cellsA] at hl; exact hl⟩, rfl⟩
variable {r : Reach} {b0 : Nat} {v : Value} {d : DataW H} {p : List MemPlace}
set_option maxRecDepth 100000 in
theorem openA (hv : Value.okWide Try.prog w r b0 26 v) (h : DataW.Trod enc Try.prog w base spare held 26 v d p) : ∃ a : Ad, v = (Value.agg (acells a).toArray) := by
  obtain ⟨cs, rfl⟩ := okWide_arr Try.underlying26 hv
  obtain ⟨fuel, hf⟩ := h
  obtain ⟨a, ha⟩ := ad_of hf
  exact ⟨a, by rw [← ha]; simp [Value.cells]⟩
end
/-- The readings of arguments stay where nothing that was there is written. -/
theorem all_stay {H : Type} {enc : TypeId × Value → H} {P : Program} (hl : laidOutB P = true) {W W' : World} (hb : Below W.heap.size W W') : ∀ (ts : List TypeId) (vs : List Value) (ds : List (DataW H)) (p : List MemPlace), (ts.all fun t => P.readableRec t && decide (t < P.types.size)) = true → DataW.TrodAll enc P W 0 (fun _ => true) true ts vs ds p → DataW.TrodAll enc P W' 0 (fun b => decide (b < W.heap.size)) true ts vs ds p
  | [], vs, ds, p, _, h => by
    obtain ⟨rfl, rfl, rfl⟩ := trodAll_nil h
    exact trodAll_mk0
  | t :: ts, vs, ds, p, hr, h => by
    obtain ⟨v0, vs0, d0, ds0, p0, q0, rfl, rfl, rfl, h0, r0⟩ := trodAll_cons h
    simp only [List.all_cons, Bool.and_eq_true, decide_eq_true_eq] at hr
    refine trodAll_cons_mk (Below.trod hl hr.1.1 hr.1.2 h0 hb ?_) (all_stay hl hb ts vs0 ds0 q0 (by simpa using hr.2) r0)
    obtain ⟨m, hm⟩ := h0
    exact DataW.trod_lt m _ _ _ hm
end Go.Proofs.Ytognnfknbkedgaa

namespace Go.Proofs.Ytognnfknbkedgaa.packetEnds
open Go.ChangeShapes Go.WideShapes Go.ChangeAt Go.RowKit
open Go.ChangeMaps (open_string)
set_option maxRecDepth 100000 in
theorem lifted (os : Os) (started : os.Started) (H : Type) (enc : TypeId × Value → H) :
    ReturnsInHanded {} Try.checked os 4 .any (Rows.packetEndsSpec.pre6 enc Try.prog Try.f4 Rows.packetEndsRow.domain false) (Rows.packetEndsSpec.post enc Try.prog Try.f4 false true false false) := by
  refine returnsInHanded_of_change_sized (C := Try.checked) own started (by kernel_rfl) Try.func4
    (ChangeSpec.witness6 (enc := enc) (C := Try.checked) false ⟨#[], #[(Value.agg (acells zeroA).toArray), .slice none 0 0, .slice none 0 0], []⟩ 8 (by kernel_rfl) (by kernel_rfl) (by kernel_rfl) (by kernel_rfl)) ?_
  intro W base args ds gs before hval0 hW hcnd hsz _
  have hval : ∀ (j : Nat) t v, Try.f4.params[j]? = some t → args[j]? = some v → Value.okWide Try.prog W .any base t v := hval0
  have hW' := hW
  obtain ⟨p, q, hA0, hV, rfl, hfz, hnd⟩ := hW
  have hA : DataW.TrodAll enc Try.prog W 0 (fun _ => true) true Try.f4.params.toList args.toList ds p := hA0
  have kA := hA
  rw [Try.params4] at hA hval
  obtain ⟨v0, vs0, d0, ds0, p0, q0, hargs, rfl, rfl, h0, r0⟩ := trodAll_cons hA
  obtain ⟨v1, vs1, d1, ds1, p1, q1, rfl, rfl, rfl, h1, r1⟩ := trodAll_cons r0
  obtain ⟨v2, vs2, d2, ds2, p2, q2, rfl, rfl, rfl, h2, r2⟩ := trodAll_cons r1
  obtain ⟨rfl, rfl, rfl⟩ := trodAll_nil r2
  obtain rfl : args = #[v0, v1, v2] := by cases args; simp_all
  obtain ⟨rfl, rfl⟩ := trodVars_none hV
  obtain ⟨a0, rfl⟩ := openA (hval 0 26 v0 rfl rfl) h0
  obtain ⟨ad1, n1, c1, l1, rfl, m1, k1, z1⟩ := openW (hval 1 40 v1 rfl rfl) h1
  have b1 := short_of hsz (j := 1) (t := 40) rfl rfl Try.underlying40 (by kernel_rfl) z1
  obtain ⟨ad2, n2, c2, l2, rfl, m2, k2, z2⟩ := openW (hval 2 40 v2 rfl rfl) h2
  have b2 := short_of hsz (j := 2) (t := 40) rfl rfl Try.underlying40 (by kernel_rfl) z2
  clear hA0 hval0
  refine (ends_any a0 ad1 n1 c1 l1 ad2 n2 c2 l2 W m1 m2 b1 b2).mono fun e W' ⟨he, bel⟩ => ?_
  subst he
  exact ⟨_, rfl, _, _, _, [], _, [], hW', trodAll_mk1 (shut_bool Try.underlying4 _), all_stay laid_out bel _ _ _ _ (by kernel_rfl) kA, rfl, bel.frame _, fun h => by cases h⟩
theorem over : Rows.packetEndsRow.holds Try.pinned (OpenSpec.ofChange Rows.packetEndsSpec) :=
  OpenClaim.holds_of_wide 4 Try.f4 rfl rfl rfl rfl rfl rfl rfl ⟨rfl, rfl, rfl, rfl, rfl⟩ rfl rfl rfl rfl rfl (by kernel_rfl) Try.func4 (by kernel_rfl)
    (of_decide_eq_true (by kernel_rfl)) (by unfold Func.isWrapper; first | (rw [if_pos (by decide +kernel)]; kernel_rfl) | (rw [if_neg (by decide +kernel)]; exact ⟨rfl, rfl⟩))
    (fun os started H enc _ => lifted os started H enc)
end Go.Proofs.Ytognnfknbkedgaa.packetEnds
namespace Go.Proofs.Ytognnfknbkedgaa
/-- The statement. -/
theorem packetEnds_holds : Rows.PacketEndsSaid := packetEnds.over
#print axioms packetEnds_holds
end Go.Proofs.Ytognnfknbkedgaa
