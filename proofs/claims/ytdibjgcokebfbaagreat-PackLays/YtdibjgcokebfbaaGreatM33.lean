/-
  The law PackLays returns true for every address, every size and every slice of Tlvs: Pack lays them as the document does, byte by byte, with the same error, and Size is what a piece takes. No condition.
-/
import Derived.Test.YtdibjgcokebfbaaGreatM32
namespace Go.Proofs.YtdibjgcokebfbaaGreat
open Go.RowKit
set_option linter.unusedSimpArgs false
set_option maxRecDepth 20000
theorem TlW.st67 {w : World} {a : Option Addr} {n : Nat} {ts : List Tl} (h : TlW w a n ts) {j : Nat} (hj : j < ts.length) : ∃ g o, a = some ⟨g, o, none⟩ ∧ w.cell? ⟨g, o + j * 68 + 67, none⟩ = some (.slice ts[j].sa ts[j].sn ts[j].sc) := by
  obtain ⟨g, o, e, _, hr⟩ := h.at hj
  exact ⟨g, o, e, hr 67 _ (tcells_get _)⟩
/-- What huge answers: false says that l is short. -/
def Hugd (w : World) (n : Nat) (ts : List Tl) (e : Ending) (w' : World) : Prop := (e = .returned (.bool false) ∧ Hid (n ≤ 200 ∧ ∀ t ∈ ts, t.sn ≤ 200) ∧ Below w.heap.size w w') ∨ (e = .returned (.bool true) ∧ Below w.heap.size w w')
theorem Hugd.yes {w : World} {n : Nat} {ts : List Tl} {w' : World} (h : Below w.heap.size w w') : Hugd w n ts (.returned (.bool true)) w' := .inr ⟨rfl, h⟩
theorem Hugd.tell {w : World} {n : Nat} {ts : List Tl} {w' : World} (hk : ∀ t ∈ ts, t.sn ≤ 200) (h : Below w.heap.size w w') : Hugd w n ts (.returned (.bool (decide ((200 : Int) < (n : Int))))) w' := by
  by_cases hn : (200 : Int) < (n : Int)
  · rw [decide_eq_true hn]; exact .yes h
  · rw [decide_eq_false hn]; exact .inl ⟨rfl, ⟨by omega, hk⟩, h⟩
theorem huge_any (a : Option Addr) (n c : Nat) (ts : List Tl) (w : World) (hs : TlW w a n ts) (hn : n ≤ 9223372036854775807) :
    Calls Tryz.prog 5 #[.slice a n c] w (Hugd w n ts) := by
  have HN : Hid (n = ts.length) := hs.len.symm
  go_enter Tryz.func5, Tryz.ntmps5
  go_wp2
  go_loopw [3] (fun i wr => ∃ j : Nat, j ≤ n ∧ j ≤ 201 ∧ i = .int .i64 j ∧ Hid (∀ t ∈ ts.take j, t.sn ≤ 200) ∧ Below w.heap.size w wr) (fun i _ => n - (intOf i).toNat)
  case atStart => exact ⟨0, Nat.zero_le _, by omega, rfl, (fun t ht => by simp at ht), Below.refl _ _⟩
  case round =>
    obtain ⟨j, hj, hj2, rfl, hall, hb⟩ := hrel
    by_cases hlt : j < n
    · have hlt' : (j : Int) < (n : Int) := by omega
      by_cases h2 : j ≤ 200
      · have h2' : (j : Int) ≤ 200 := by omega
        have hjk : j < ts.length := by have := HN.out; omega
        obtain ⟨g, o, rfl, c67⟩ := (hs.below hb).st67 hjk
        have HM : Hid (ts[j].sn ≤ 200 → ∀ t ∈ ts.take (j + 1), t.sn ≤ 200) := fun h t ht => by
          rw [List.take_succ_eq_append_getElem hjk] at ht
          rcases List.mem_append.1 ht with h1 | h1
          · exact hall.out t h1
          · simp at h1; subst h1; exact h
        generalize ts[j].sa = sa at *
        generalize ts[j].sn = sn at *
        generalize ts[j].sc = sc at *
        by_cases h3 : 200 < sn
        · have h3' : (200 : Int) < (sn : Int) := by omega
          go_wp2
          go_ret
          exact Hugd.yes hb
        · have h3' : ¬ (200 : Int) < (sn : Int) := by omega
          go_wp2
          go_roundw
          case rel => exact ⟨j + 1, by omega, by omega, by go_num, HM.out (by omega), hb⟩
          case measure => simp [intOf]; omega
      · have h2' : ¬ (j : Int) ≤ 200 := by omega
        have h4 : (200 : Int) < (n : Int) := by omega
        go_wp2
        go_ret
        first | exact Hugd.yes hb | (simp only [h4, decide_true]; exact Hugd.yes hb)
    · have hlt' : ¬ (j : Int) < (n : Int) := by omega
      obtain rfl : n = j := by omega
      have HA : Hid (∀ t ∈ ts, t.sn ≤ 200) := fun t ht => hall.out t (by rw [List.take_of_length_le (by have := HN.out; omega)]; exact ht)
      go_wp2
      go_ret
      exact Hugd.tell HA.out hb
theorem pack_any (src : Ad) (mtu : Int) (al : Option Addr) (n cl : Nat) (ts : List Tl) (w : World) (hs : TlW w al n ts) (hf : ∀ t ∈ ts, TFit t.key ∧ t.sn ≤ 100000) (hn : n ≤ 100000) :
    Calls Tryz.prog 7 #[(Value.agg (acells src).toArray), .int .i64 mtu, .slice al n cl] w (Packd w (pakL src mtu (ts.map Tl.key))) := by
  by_cases h : mtu < 64 ∨ 65539 < mtu
  · exact pack_bad src mtu al n cl _ w h
  · exact pack_ok src mtu al n cl ts w hs hf hn (by omega) (by omega)
theorem rpack_any (src : Ad) (mtu : Int) (al : Option Addr) (n cl : Nat) (ts : List Tl) (w : World) (hs : TlW w al n ts) (hf : ∀ t ∈ ts, TFit t.key ∧ t.sn ≤ 100000) (hn : n ≤ 100000) :
    Calls Tryz.prog 8 #[(Value.agg (acells src).toArray), .int .i64 mtu, .slice al n cl] w (Packd w (pakL src mtu (ts.map Tl.key))) := by
  by_cases h : mtu < 64 ∨ 65539 < mtu
  · exact rpack_bad src mtu al n cl _ w h
  · exact rpack_ok src mtu al n cl ts w hs hf hn (by omega) (by omega)
end Go.Proofs.YtdibjgcokebfbaaGreat

namespace Go.Proofs.YtdibjgcokebfbaaGreat
open Go.RowKit
set_option linter.unusedSimpArgs false
set_option maxRecDepth 20000
theorem run_bsT0 (w : World) : (Instr.buildSlice 24 0 #[]).run Tryz.prog w = .ok (.slice (some ⟨w.heap.size, 0, none⟩) 0 0) (w.alloc (.cells #[] 45)) := by kernel_rfl
theorem own_tl0 {W : World} {g B : Nat} (h : Row W g 45 []) (hB : B ≤ g) : W.ownsRow B 45 68 (.slice (some ⟨g, 0, none⟩) 0 0) 0 (tcs []) :=
  ⟨rfl, .inr ⟨g, 0, #[], rfl, hB, h, Nat.le_refl _, by unfold maxLen; omega, rfl, rfl⟩⟩
theorem TlW.cells {w : World} {ad : Addr} {n : Nat} {ts : List Tl} (h : TlW w (some ad) n ts) : ∀ j u, (tcs ts)[j]? = some u → w.cell? (ad.add j) = some u := by
  intro j u hu
  have hlt := (List.getElem?_eq_some_iff.1 hu).1
  rw [tcs_len] at hlt
  have hj : j / 68 < ts.length := by omega
  obtain ⟨g, o, e, _, hr⟩ := h.at hj
  cases e
  have hk : j % 68 < 68 := Nat.mod_lt _ (by decide)
  have e2 := tcs_get ts (j / 68) ts[j / 68] (List.getElem?_eq_getElem hj) (j % 68) hk
  rw [show j / 68 * 68 + j % 68 = j by omega] at e2
  rw [e2] at hu
  have := hr (j % 68) u hu
  rw [Addr.add_mid, show o + j = o + j / 68 * 68 + j % 68 by omega]
  exact this
theorem TlW.ofOwn {w : World} {B : Nat} {a : Option Addr} {n c : Nat} {ts : List Tl} (h : w.ownsRow B 45 68 (.slice a n c) n (tcs ts)) (hl : ts.length = n) (hs : ∀ t ∈ ts, TSrc w t) : TlW w a n ts := by
  refine ⟨hl, fun hne => ?_, hs⟩
  rcases h.2 with ⟨_, h2⟩ | ⟨g, cap, cur, hv, _, hh, _, _, _, _⟩
  · exact absurd (List.eq_nil_of_length_eq_zero (hl.trans h2)) hne
  · cases hv
    refine ⟨g, 0, rfl, lt_of_block hh, fun j p hp k u hu => ?_⟩
    have hk : k < 68 := by have := (List.getElem?_eq_some_iff.1 hu).1; rwa [tcells_len] at this
    have := h.cells rfl (j * 68 + k) u (by rw [tcs_get ts j p hp k hk]; exact hu)
    rw [Addr.add_mid] at this
    rw [Nat.add_assoc]
    exact this
section
variable {ops : Array Oper} {op : Oper} {a : Act} {w : World} {Q : Exit → Act → World → Prop} {K : Act → World → Prop} {E : Prop}
theorem sBsT0 (hw : Region.wanted op (yielded ops a.tmps) = true) (ho : op.op = .buildSlice 24 0 #[])
    (h : ∀ g W, w.heap.size ≤ g → Row W g 45 [] → Below w.heap.size w W → K (a.put op.dst (.slice (some ⟨g, 0, none⟩) 0 0)) W) : if Region.wanted op (yielded ops a.tmps) = true then Oper.wp Tryz.prog op a w K Q else E := by
  rw [if_pos hw]
  have h1 := h _ _ (Nat.le_refl _) (Row.new w 45 []) (ba _ _)
  unfold Oper.wp execOp
  simp only [ho, List.map_toArray, List.map_nil, Sem.run_bind, run_bsT0, Result.andThen_ok, Sem.run_pure]
  exact h1
theorem sAppTl (s x : Operand) (hw : Region.wanted op (yielded ops a.tmps) = true)
    (ho : op.op = .call { callee := .builtin .append, args := #[s, x], argTypes := #[24, 24] })
    (base : Nat) (v : Value) (hs : a.eval s = v) (hown : w.ownsRow base 45 68 v 0 (tcs []))
    (al : Option Addr) (n c : Nat) (ts : List Tl) (hx : a.eval x = .slice al n c) (hT : TlW w al n ts) (hal : al = none → n = 0 ∧ c = 0) (hn : n ≤ 1000000) (hbase : base ≤ w.heap.size)
    (h : ∀ v' w', w'.ownsRow base 45 68 v' n (tcs ts) → w.grownBy w' v.ownBlock → K (a.put op.dst v') w') : if Region.wanted op (yielded ops a.tmps) = true then Oper.wp Tryz.prog op a w K Q else E := by
  rw [if_pos hw]
  obtain ⟨i0, hi, hz0, hz1, hz2⟩ := info_parts infoT
  have h1 : ∀ u ∈ tcs ts, u.oneCell' = true := by
    intro u hu
    unfold tcs at hu
    obtain ⟨t, _, ht⟩ := List.mem_flatMap.1 hu
    exact tcells_one t u ht
  cases al with
  | some ad =>
    refine wp_append_own w s x 24 ho base 45 i0 (.agg (tcells zeroT).toArray) 68 112 Tryz.underlying24 hi hz0 hz1 hz2 rfl (by decide) v 0 (tcs []) hs hown ad n c (tcs ts) hx (by rw [tcs_len, hT.len]) hT.cells h1 (by unfold maxLen; omega) (by omega) hbase (fun v' w' h1 h2 _ => h v' w' ?_ h2)
    rw [Nat.zero_add] at h1
    exact h1
  | none =>
    obtain ⟨rfl, rfl⟩ := hal rfl
    have hk : ts = [] := List.eq_nil_of_length_eq_zero hT.len
    subst hk
    have hrun := run_append_owned_none (P := Tryz.prog) (w := w) base 24 op.type 45 i0 68 Tryz.underlying24 hi v 0 (tcs []) hown
    have h2 := h v w hown (World.grownBy.refl _ _)
    unfold Oper.wp execOp
    simp only [ho, resolve, invoke, builtin, Sem.run_bind, Sem.run_pure, Result.andThen_ok, List.map_toArray, List.map_cons, List.map_nil, hs, hx, hrun]
    exact h2
end
end Go.Proofs.YtdibjgcokebfbaaGreat

namespace Go.Proofs.YtdibjgcokebfbaaGreat
open Go.RowKit
set_option linter.unusedSimpArgs false
set_option maxRecDepth 20000
theorem shapeW {B n s : Nat} {T : TypeId} {W : World} {v : Value} {xs : List Value} (h : W.ownsRow B T s v n xs) : ∃ a c, v = .slice a n c := by
  rcases h.2 with ⟨rfl, rfl⟩ | ⟨g, c, arr, rfl, _⟩
  · exact ⟨none, 0, rfl⟩
  · exact ⟨_, c, rfl⟩
theorem enc_pie {k : TK} (h : TOk k) : (encK (pieK k)).length = 2 + (bodL k).length := by
  have e : UInt8.ofNat k.ty ≠ 0 := by rcases namB_cases h.nam with e | e | e | e | e | e | e <;> (rw [e]; decide)
  unfold encK
  rw [if_neg (show (pieK k).1 ≠ 0 from e)]
  simp [pieK]; omega
theorem pak_num (src : Ad) (mtu : Int) : ∀ (ks : List TK) (d : DS) (acc : List (List UInt8)), (pakR src mtu d ks acc).1.length ≤ acc.length + ks.length + 1
  | [], d, acc => by
    rw [pakR]
    split
    · dsimp only; omega
    · simp
  | k :: ks, d, acc => by
    rw [pakR]
    split
    · simp
    · split
      · have := pak_num src mtu ks (takD d k) acc
        simp; omega
      · split
        · have := pak_num src mtu ks (takD (begD src mtu) k) (acc ++ [pktD d])
          simp at this ⊢; omega
        · simp
theorem pakL_num (src : Ad) (mtu : Int) (ks : List TK) : (pakL src mtu ks).1.length ≤ ks.length + 1 := by
  unfold pakL
  split
  · simp
  · have := pak_num src mtu ks (begD src mtu) []
    simpa using this
set_option maxHeartbeats 16000000 in
theorem lays_walk (src : Ad) (mtu : Int) (al : Option Addr) (n cl : Nat) (ts : List Tl) (w : World) (hs : TlW w al n ts) (hal : al = none → n = 0 ∧ cl = 0) (hf : ∀ t ∈ ts, TFit t.key) (hn : n ≤ 9223372036854775807) :
    Calls Tryz.prog 3 #[(Value.agg (acells src).toArray), .int .i64 mtu, .slice al n cl] w fun e w' => e = .returned (.bool true) ∧ Below w.heap.size w w' := by
  have HH : Hid (∀ W, Below w.heap.size w W → Calls Tryz.prog 5 #[.slice al n cl] W (Hugd W n ts)) := fun W hW => huge_any al n cl ts W (hs.below hW) hn
  obtain ⟨R, hR⟩ : ∃ R, pakL src mtu (ts.map Tl.key) = R := ⟨_, rfl⟩
  have HP1 : Hid (∀ W a c, n ≤ 200 → (∀ t ∈ ts, t.sn ≤ 200) → Below w.heap.size w W → W.ownsRow w.heap.size 45 68 (.slice a n c) n (tcs ts) → Calls Tryz.prog 7 #[(Value.agg (acells src).toArray), .int .i64 mtu, .slice a n c] W (Packd W R)) := fun W a c h1 h2 hW hO => by
    rw [← hR]
    exact pack_any src mtu a n c ts W (TlW.ofOwn hO hs.len (fun t ht => Src.below (hs.stms t ht) hW (Src.lt (hs.stms t ht)))) (fun t ht => ⟨hf t ht, by have := h2 t ht; omega⟩) (by omega)
  have HP2 : Hid (∀ W, n ≤ 200 → (∀ t ∈ ts, t.sn ≤ 200) → Below w.heap.size w W → Calls Tryz.prog 8 #[(Value.agg (acells src).toArray), .int .i64 mtu, .slice al n cl] W (Packd W R)) := fun W h1 h2 hW => by
    rw [← hR]
    exact rpack_any src mtu al n cl ts W (hs.below hW) (fun t ht => ⟨hf t ht, by have := h2 t ht; omega⟩) (by omega)
  have HTL : Hid (∀ W, Below w.heap.size w W → TlW W al n ts) := fun W hW => hs.below hW
  have HRn : Hid (n ≤ 200 → R.1.length ≤ 1000) := fun h => by have := pakL_num src mtu (ts.map Tl.key); rw [hR, List.length_map, hs.len] at this; omega
  clear hR
  have RS := Row.new w 23 (acells src)
  have B0 := ba w (.cells (acells src).toArray 23)
  go_enter Tryz.func3, Tryz.ntmps3
  go_upto_region 3 with (first
    | (go_at_call 6; refine (live7_any _).mono ?_; rintro e w9 ⟨rfl, b9⟩)
    | (go_at_call 5; refine (HH.out _ B0).mono ?_; rintro e w1 (⟨rfl, HX, b1⟩ | ⟨rfl, b1⟩)))
  · have F0 : Row w1 w.heap.size 23 (acells src) ∧ Below w.heap.size w w1 := ⟨RS.below b1 RS.lt, bt B0 b1⟩
    clear RS B0 b1 HH
    refine wp_region_noPanic ?_
    refine wp_region_held_drew (S := fun W => Row W w.heap.size 23 (acells src) ∧ Below w.heap.size w W) (by kernel_rfl) (⟨F0.1, F0.2.drew⟩) (fun hHeld => ?_)
    refine tL 0 rfl (yA src (fun w h => h.1.range) (by rfl) rfl rfl) ?_
    refine tA 1 ?_
    refine tA 3 ?_
    refine r1 2 fun K hK => ?_
    refine sBsT0 (by rfl) rfl ?_
    intro gA wA lA rA hA
    have oA := own_tl0 rA (Nat.le_trans hHeld.2.size lA)
    refine oK hK (by exact ⟨hHeld.1.below hA hHeld.1.lt, bt hHeld.2 hA⟩) fun hHeld => ?_
    clear hK K
    refine r1 4 fun K hK => ?_
    refine sAppTl (.tmp 19) (.tmp 20) (by rfl) rfl w.heap.size _ rfl oA al n cl ts rfl (HTL.out _ hHeld.2) hal (by have := HX.out.1; omega) hHeld.2.size ?_
    intro v4 w4 o4 g4
    obtain ⟨a4, c4, rfl⟩ := shapeW o4
    refine oK hK (by exact ⟨hHeld.1.grown g4 (own_ne oA hHeld.1 (by decide)), hHeld.2.grown g4 hHeld.2.size (fun q hq => (oA.lt q hq).1)⟩) fun hHeld => ?_
    clear hK K
    refine r1 5 fun K hK => ?_
    go_simp
    refine (HP1.out _ a4 c4 HX.out.1 HX.out.2 hHeld.2 o4).mono ?_
    rintro e w5 ⟨pa, pm, pc, qs, rfl, hq, hm, hac, hb⟩
    have HQ : Hid (qs.map Part.l = R.1) := hq
    have HM : Hid (pm = qs.length) := hm
    clear hq hm
    refine oK hK (by exact ⟨hHeld.1.below hb hHeld.1.lt, bt hHeld.2 hb⟩) fun hHeld => ?_
    clear hK K
    refine tA 6 ?_
    refine tA 7 ?_
    refine tA 8 ?_
    refine tA 9 ?_
    refine tA 10 ?_
    refine dN ?_
    refine NoPanic.normal ?_
    replace F0 := hHeld
    clear hHeld oA o4 g4 rA lA hA hb
    clear HP1
    have hpm : pm ≤ 100000 := by have h1 := HM.out; have h2 := HRn.out HX.out.1; rw [← HQ.out, List.length_map] at h2; omega
    have st0 := True.intro
    obtain ⟨R1, R2⟩ := R
    dsimp only at HQ
    go_wp2_with (first
      | (go_at_call 10; refine (num7 _ _).mono ?_; rintro e wn ⟨rfl, rfl⟩)
      | (have kk := st1; go_at_call 9; refine (rsame7_yes pa pm pc qs ra rm rc rs _ _ w6 hac6 rac HM.out HRM.out (HQ.out.trans HRQ.out.symm) hpm).mono ?_; rintro e w7 ⟨rfl, b7⟩; clear kk st1; have F7 := bt F6 b7)
      | (have kk := st0; go_at_call 8; refine (HP2.out _ HX.out.1 HX.out.2 F0.2).mono ?_; rintro e w6 ⟨ra, rm, rc, rs, rfl, hrq, hrm, rac, b6⟩; clear kk st0; have st1 := True.intro; have HRQ : Hid (rs.map Part.l = R1) := hrq; have HRM : Hid (rm = rs.length) := hrm; clear hrq hrm; have hac6 := hac.below b6; have F6 := bt F0.2 b6)
      | (have kk := st0; refine ldA (.tmp 3) (by rfl) rfl w.heap.size 0 src rfl F0.1.range ?_))
    clear hac hac6 rac HM HRM HQ HRQ hpm F6 HP2 HRn
    have hn2 := HX.out.1
    have HS2 : Hid (∀ t ∈ ts, t.sn ≤ 200 ∧ TFit t.key) := fun t ht => ⟨HX.out.2 t ht, hf t ht⟩
    have HN : Hid (ts.length = n) := hs.len
    have HST : Hid (∀ t ∈ ts, TSrc w t) := hs.stms
    go_loopw [11] (fun i wr => ∃ j : Nat, j ≤ n ∧ i = .int .i64 j ∧ Below w.heap.size w wr) (fun i _ => n - (intOf i).toNat)
    case atStart => exact ⟨0, Nat.zero_le _, rfl, F7⟩
    case round =>
      obtain ⟨j, hj, rfl, hb⟩ := hrel
      rename World => X
      by_cases hlt : j < n
      · have hjk : j < ts.length := by have := HN.out; omega
        obtain ⟨gl, ol, rfl, _, _⟩ := (HTL.out _ hb).at hjk
        have HL : Hid (∀ W, Below w.heap.size w W → W.rangeAt gl (ol + j * 68) (tcells ts[j])) := fun W hW => by
          obtain ⟨g', o', e', _, r'⟩ := (HTL.out _ hW).at hjk
          cases e'
          exact r'
        obtain ⟨hsn, hft⟩ := HS2.out ts[j] (List.getElem_mem hjk)
        have ht := HST.out ts[j] (List.getElem_mem hjk)
        have HTS : Hid (∀ W, Below w.heap.size w W → TSrc W ts[j]) := fun W hW => Src.below ht hW (Src.lt ht)
        have HCK : Hid (∀ W, Below w.heap.size w W → Calls Tryz.prog 11 #[.agg (tcells ts[j]).toArray] W fun e w' => e = .returned (.int .i64 (chkT ts[j].key)) ∧ Below W.heap.size W w') := fun W hW => rcheckD_any ts[j] W (HTS.out W hW) (by omega)
        have HSZ : Hid (∀ W, Below w.heap.size w W → Calls Tryz.prog 13 #[.agg (tcells ts[j]).toArray] W (Gives W (.int .i64 ((if chkT ts[j].key = 0 then 2 + (bodL ts[j].key).length else 0 : Nat) : Int)))) := fun W hW => size_any ts[j] W (HTS.out W hW) (by omega) hft
        have hji : (j : Int) < (n : Int) := Int.ofNat_lt.2 hlt
        have HJ : Hid (j + 1 ≤ n ∧ n - ((j : Int) + 1).toNat < n - ((j : Int)).toNat) := by constructor <;> omega
        by_cases hc : chkT ts[j].key = 0
        · have hk := TOk.of hft hc
          have HPI : Hid (∀ W, Below w.heap.size w W → Calls Tryz.prog 12 #[.agg (tcells ts[j]).toArray] W fun e w' => ∃ a c, e = .returned (.slice a (2 + (bodL ts[j].key).length) c) ∧ Below W.heap.size W w') := fun W hW => (rpiece7_any ts[j] W (HTS.out W hW) hk hc).mono fun e w' ⟨a, m, c, h1, h2, h3⟩ => ⟨a, c, by
            have e2 := h2.1
            rw [bcells_length, enc_pie hk] at e2
            rw [h1, show m = 2 + (bodL ts[j].key).length by omega], h3⟩
          rw [hc] at HCK
          rw [if_pos hc] at HSZ
          generalize 2 + (bodL ts[j].key).length = L at *
          generalize ts[j] = t at *
          clear hk hc ht hsn hft HTS hjk HS2 HST HN hj hlt hs hf F0 F7 hn2
          have s0 := True.intro
          go_wp2_with (first
            | (have kk := s2; go_at_call 13; refine (HSZ.out _ hb).mono ?_; rintro e w9 ⟨rfl, b9⟩; clear kk s2; replace hb := bt hb b9)
            | (have kk := s2; refine ldTm (.tmp 62) (by rfl) rfl gl (ol + j * 68) t rfl (HL.out _ hb) ?_)
            | (have kk := s1; go_at_call 12; refine (HPI.out _ hb).mono ?_; rintro e w8 ⟨a8, c8, rfl, b8⟩; clear kk s1; have s2 := True.intro; replace hb := bt hb b8)
            | (have kk := s1; refine ldTm (.tmp 56) (by rfl) rfl gl (ol + j * 68) t rfl (HL.out _ hb) ?_)
            | (have kk := s0; go_at_call 11; refine (HCK.out _ hb).mono ?_; rintro e w6' ⟨rfl, b6'⟩; clear kk s0; have s1 := True.intro; replace hb := bt hb b6')
            | (have kk := s0; refine ldTm (.tmp 50) (by rfl) rfl gl (ol + j * 68) t rfl (HL.out _ hb) ?_))
          go_roundw
          case rel => exact ⟨j + 1, HJ.out.1, by go_num, hb⟩
          case measure => exact HJ.out.2
        · have hc' : (chkT ts[j].key == 0) = false := by simpa using hc
          rw [if_neg hc] at HSZ
          generalize chkT ts[j].key = z at *
          generalize ts[j] = t at *
          clear hc ht hsn hft HTS hjk HS2 HST HN hj hlt hs hf F0 F7 hn2
          have s0 := True.intro
          go_wp2_with (first
            | (have kk := s2; go_at_call 13; refine (HSZ.out _ hb).mono ?_; rintro e w9 ⟨rfl, b9⟩; clear kk s2; replace hb := bt hb b9)
            | (have kk := s2; refine ldTm (.tmp 62) (by rfl) rfl gl (ol + j * 68) t rfl (HL.out _ hb) ?_)
            | (have kk := s0; go_at_call 11; refine (HCK.out _ hb).mono ?_; rintro e w6' ⟨rfl, b6'⟩; clear kk s0; have s2 := True.intro; replace hb := bt hb b6')
            | (have kk := s0; refine ldTm (.tmp 50) (by rfl) rfl gl (ol + j * 68) t rfl (HL.out _ hb) ?_))
          go_roundw
          case rel => exact ⟨j + 1, HJ.out.1, by go_num, hb⟩
          case measure => exact HJ.out.2
      · have hji : ¬ (j : Int) < (n : Int) := by omega
        go_wp2_with (go_at_call 6; refine (live7_any _).mono ?_; rintro e w9 ⟨rfl, b9⟩)
        go_ret
        exact ⟨rfl, bt hb b9⟩
  · go_ret
    exact ⟨rfl, bt (bt B0 b1) b9⟩
end Go.Proofs.YtdibjgcokebfbaaGreat

namespace Go.Proofs.YtdibjgcokebfbaaGreat.packLays
open Go.ChangeShapes Go.WideShapes Go.ChangeAt Go.RowKit Go.Deep
open Go.ChangeMaps (open_string)
set_option maxRecDepth 100000 in
theorem nilU {H : Type} {enc : TypeId × Value → H} {w : World} {base : Nat} {held : Bool} {ad : Option Addr} {n c : Nat} {d : DataW H} {p : List MemPlace} (h : DataW.Trod enc Tryz.prog w base (fun _ => true) held 24 (.slice ad n c) d p) : ad = none → n = 0 ∧ c = 0 := by
  obtain ⟨fuel, hf⟩ := h
  rcases open_slice Tryz.underlying24 hf with ⟨hcs, _⟩ | ⟨a, len', cap', m, k, D, Pl, hcs, _⟩
  · simp [Value.cells] at hcs
    obtain ⟨rfl, rfl, rfl⟩ := hcs
    intro _
    exact ⟨rfl, rfl⟩
  · simp [Value.cells] at hcs
    obtain ⟨rfl, rfl, rfl⟩ := hcs
    intro h
    cases h
set_option maxRecDepth 100000 in
theorem lifted (os : Os) (started : os.Started) (H : Type) (enc : TypeId × Value → H) :
    ReturnsInHanded {} Tryz.checked os 3 .any (Rows.packLaysSpec.pre6 enc Tryz.prog Tryz.f3 Rows.packLaysRow.domain false) (Rows.packLaysSpec.post enc Tryz.prog Tryz.f3 false true false false) := by
  refine returnsInHanded_of_change (C := Tryz.checked) own started (by kernel_rfl) Tryz.func3
    (ChangeSpec.witness6 (enc := enc) (C := Tryz.checked) false ⟨#[], #[(Value.agg (acells zeroA).toArray), .int .i64 0, .slice none 0 0], []⟩ 8 (by kernel_rfl) (by kernel_rfl) (by kernel_rfl) (by kernel_rfl)) ?_
  intro W base args ds gs before hval0 hW hcnd _
  have hval : ∀ (j : Nat) t v, Tryz.f3.params[j]? = some t → args[j]? = some v → Value.okWide Tryz.prog W .any base t v := hval0
  have hW' := hW
  obtain ⟨p, q, hA0, hV, rfl, hfz, hnd⟩ := hW
  have hA : DataW.TrodAll enc Tryz.prog W 0 (fun _ => true) true Tryz.f3.params.toList args.toList ds p := hA0
  have kA := hA
  rw [Tryz.params3] at hA hval
  obtain ⟨v0, vs0, d0, ds0, p0, q0, hargs, rfl, rfl, h0, r0⟩ := trodAll_cons hA
  obtain ⟨v1, vs1, d1, ds1, p1, q1, rfl, rfl, rfl, h1, r1⟩ := trodAll_cons r0
  obtain ⟨v2, vs2, d2, ds2, p2, q2, rfl, rfl, rfl, h2, r2⟩ := trodAll_cons r1
  obtain ⟨rfl, rfl, rfl⟩ := trodAll_nil r2
  obtain rfl : args = #[v0, v1, v2] := by cases args; simp_all
  obtain ⟨rfl, rfl⟩ := trodVars_none hV
  obtain ⟨a0, rfl⟩ := openA (hval 0 23 v0 rfl rfl) h0
  obtain ⟨a1, rfl, _, _, w1⟩ := open_int Tryz.underlying3 (hval 1 3 v1 rfl rfl) h1
  obtain ⟨ad2, n2, c2, l2, rfl, m2, f2, b2⟩ := openU (hval 2 24 v2 rfl rfl) h2
  clear hA0 hval0
  refine (lays_walk a0 a1 ad2 n2 c2 l2 W m2 (nilU h2) f2 (Nat.le_trans b2.1 b2.2)).mono fun e W' ⟨he, bel⟩ => ?_
  subst he
  exact ⟨_, rfl, _, _, _, [], _, [], hW', trodAll_mk1 (shut_bool Tryz.underlying4 _), all_stay laid_out bel _ _ _ _ (by kernel_rfl) kA, rfl, bel.frame _, fun h => by cases h⟩
theorem over : Rows.packLaysRow.holds Tryz.pinned (OpenSpec.ofChange Rows.packLaysSpec) :=
  OpenClaim.holds_of_wide 3 Tryz.f3 rfl rfl rfl rfl rfl rfl rfl ⟨rfl, rfl, rfl, rfl, rfl⟩ rfl rfl rfl rfl rfl (by kernel_rfl) Tryz.func3 (by kernel_rfl)
    (of_decide_eq_true (by kernel_rfl)) (by unfold Func.isWrapper; first | (rw [if_pos (by decide +kernel)]; kernel_rfl) | (rw [if_neg (by decide +kernel)]; exact ⟨rfl, rfl⟩))
    (fun os started H enc _ => lifted os started H enc)
end Go.Proofs.YtdibjgcokebfbaaGreat.packLays
namespace Go.Proofs.YtdibjgcokebfbaaGreat
/-- The statement. -/
theorem packLays_holds : Rows.PackLaysSaid := packLays.over
#print axioms packLays_holds
end Go.Proofs.YtdibjgcokebfbaaGreat
