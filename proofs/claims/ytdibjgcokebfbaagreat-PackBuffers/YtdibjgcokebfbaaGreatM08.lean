/-
  The contract of body of package pack, for every Tlv that may be.
-/
import Derived.Test.YtdibjgcokebfbaaGreatM07
namespace Go.Proofs.YtdibjgcokebfbaaGreat
open Go.RowKit
set_option linter.unusedSimpArgs false
set_option maxRecDepth 20000

def LaidN (w : World) (l : List UInt8) (e : Ending) (w' : World) : Prop := ∃ a n c, e = .returned (.slice a n c) ∧ w'.ownsRow w.heap.size 5 1 (.slice a n c) n (bcells l) ∧ Below w.heap.size w w'
theorem Laid.n {w w' : World} {l : List UInt8} {e : Ending} (h : Laid w l e w') : LaidN w l e w' := by
  obtain ⟨a, c, h1, h2, h3⟩ := h
  exact ⟨a, _, c, h1, h2, h3⟩
theorem LaidN.l {w w' : World} {l : List UInt8} {e : Ending} (h : LaidN w l e w') : Laid w l e w' := by
  obtain ⟨a, n, c, rfl, h2, h3⟩ := h
  obtain rfl : n = l.length := (own_srcP h2).blen
  exact ⟨a, c, rfl, h2, h3⟩
theorem own_cast {w : World} {B n : Nat} {v : Value} {l l' : List UInt8} (h : l = l') (o : w.ownsRow B 5 1 v n (bcells l)) : w.ownsRow B 5 1 v n (bcells l') := h ▸ o
theorem callsN {P : Program} {f : Nat} {av : Array Value} {w : World} {l : List UInt8} (h : Calls P f av w (Laid w l)) : Calls P f av w (LaidN w l) := h.mono fun _ _ h => h.n
theorem bodL_2 (k : TK) (h : k.ty = 2) : bodL k = [0, k.nonce, k.intv].flatMap hw := by unfold bodL; rw [if_pos h]; simp
theorem bodL_3 (k : TK) (h : k.ty = 3) : bodL k = [k.nonce].flatMap hw := by unfold bodL; rw [if_neg (by omega), if_pos h]; simp
theorem bodL_4 (k : TK) (h : k.ty = 4) : bodL k = [if k.uni = true then 32768 else 0, k.seq, k.intv].flatMap hw ++ timL k.st := by unfold bodL; rw [if_neg (by omega), if_neg (by omega), if_pos h]; simp
theorem bodL_5 (k : TK) (h : k.ty = 5) : bodL k = [(whmE k).toNat, 0].map UInt8.ofNat ++ [k.rx, k.intv].flatMap hw ++ whmL k ++ timL k.st := by unfold bodL; rw [if_neg (by omega), if_neg (by omega), if_neg (by omega), if_pos h]; simp
theorem bodL_8 (k : TK) (h : k.ty = 8) : bodL k = [(whrE k).toNat, 0, whrN k, 0].map UInt8.ofNat ++ [k.intv, k.seq, k.met].flatMap hw ++ whrL k ++ srcL k.pr := by unfold bodL; rw [if_neg (by omega), if_neg (by omega), if_neg (by omega), if_neg (by omega), if_pos h]; simp
theorem bodL_9 (k : TK) (h : k.ty = 9) : bodL k = [(whrE k).toNat, whrN k].map UInt8.ofNat ++ whrL k ++ srcL k.pr := by unfold bodL; rw [if_neg (by omega), if_neg (by omega), if_neg (by omega), if_neg (by omega), if_neg (by omega), if_pos h]; simp
theorem bodL_10 (k : TK) (h : k.ty = 10) : bodL k = [(whrE k).toNat, whrN k].map UInt8.ofNat ++ [k.seq].flatMap hw ++ [k.hops, 0].map UInt8.ofNat ++ k.id.l ++ whrL k ++ srcL k.pr := by unfold bodL; rw [if_neg (by omega), if_neg (by omega), if_neg (by omega), if_neg (by omega), if_neg (by omega), if_neg (by omega)]; simp
theorem hw_len (n : Nat) : (hw n).length = 2 := rfl
theorem whrN_lt (k : TK) (h : k.all = true ∨ (0 ≤ k.pr.d.n ∧ k.pr.d.n ≤ 128)) : whrN k < 256 := by
  unfold whrN pfxN
  split
  · omega
  · rcases h with h | h
    · simp_all
    · split <;> omega
theorem whrL_len (k : TK) : (whrL k).length ≤ 16 := by
  unfold whrL
  split
  · simp
  · exact pfxL_len _
theorem adrL_len (a : Ad) : (adrL a).length ≤ 16 := by
  unfold adrL
  have := a.len
  split
  · simp; omega
  · split
    · simp; omega
    · omega
theorem whmL_len (k : TK) : (whmL k).length ≤ 16 := by
  unfold whmL
  split
  · simp
  · exact adrL_len _
theorem srcL_len (q : Pr) : (srcL q).length ≤ 19 := by
  unfold srcL inL
  have := pfxL_len q.s
  split <;> simp <;> omega
theorem timL_len (st : List UInt32) (h : st.length ≤ 2) : (timL st).length ≤ 10 := by
  unfold timL inL
  split
  · simp
  · rw [List.length_cons, List.length_cons, be32_len]; omega
/-- The cells of a Tlv that are loaded. -/
structure TC (W : World) (b : Nat) (t : Tl) : Prop where
  c1 : W.cell? ⟨b, 1, none⟩ = some (.int .u16 (t.nonce : Int))
  c2 : W.cell? ⟨b, 2, none⟩ = some (.int .u16 (t.intv : Int))
  c3 : W.cell? ⟨b, 3, none⟩ = some (.int .u16 (t.seq : Int))
  c4 : W.cell? ⟨b, 4, none⟩ = some (.int .u16 (t.rx : Int))
  c5 : W.cell? ⟨b, 5, none⟩ = some (.int .u16 (t.met : Int))
  c6 : W.cell? ⟨b, 6, none⟩ = some (.int .u8 (t.hops : Int))
  c67 : W.cell? ⟨b, 67, none⟩ = some (.slice t.sa t.sn t.sc)
theorem Row.tc {W : World} {b : Nat} {t : Tl} (r : Row W b 45 (tcells t)) : TC W b t := ⟨r.cell 1, r.cell 2, r.cell 3, r.cell 4, r.cell 5, r.cell 6, r.rSt⟩
theorem body_2 (t : Tl) (w : World) (hf : TFit t.key) (hy : t.ty = 2) : Calls Tryz.prog 66 #[.agg (tcells t).toArray] w (LaidN w (bodL t.key)) := by
  obtain ⟨LL, HLL⟩ : ∃ LL, Hid (bodL t.key = LL) := ⟨_, rfl⟩
  rw [HLL.out]
  have RT := Row.new w 45 (tcells t)
  have T0 : (tcells t)[0]? = some (.int .u8 2) := by show some (Value.int .u8 (t.ty : Int)) = _; rw [hy]; rfl
  have T1 : (tcells t)[1]? = some (.int .u16 (t.nonce : Int)) := rfl
  have T2 : (tcells t)[2]? = some (.int .u16 (t.intv : Int)) := rfl
  have h1 := hf.nonce
  have h2 := hf.intv
  have HE : Hid (bodL t.key = [0, t.nonce, t.intv].flatMap hw) := bodL_2 t.key hy
  rw [HLL.out] at HE
  clear hy hf
  have HB : Hid (∀ x ∈ [0, t.nonce, t.intv], x < 65536) := fun x hx => by simp at hx; rcases hx with rfl | rfl | rfl; omega; exact h1; exact h2
  generalize t.nonce = x at *
  generalize t.intv = y at *
  clear h1 h2
  have NS : Src ((w.alloc (.cells (tcells t).toArray 45)).alloc (.cells #[.int .u16 0, .int .u16 (x : Int), .int .u16 (y : Int)] 36)) (some ⟨w.heap.size + 1, 0, none⟩) 3 3 (n16 [0, x, y]) := by
    have := new_src_of (w.alloc (.cells (tcells t).toArray 45)) #[.int .u16 0, .int .u16 (x : Int), .int .u16 (y : Int)] 36
    simpa [n16] using this
  go_enter Tryz.func66, Tryz.ntmps66
  go_wp2_with (go_at_call 89; refine (callsN (put16_n none 0 0 [] (some ⟨w.heap.size + 1, 0, none⟩) 3 3 [0, x, y] _ (Src.nil _) NS HB.out (by simp) (by simp))).mono ?_; rintro e w1 ⟨a1, n1, c1, rfl, o1, b1⟩)
  go_ret
  exact ⟨a1, n1, c1, rfl, own_cast (by rw [HE.out]; simp) (own_le o1 (by simp; omega)), bt (bt (ba _ _) (ba _ _)) b1⟩
theorem body_3 (t : Tl) (w : World) (hf : TFit t.key) (hy : t.ty = 3) : Calls Tryz.prog 66 #[.agg (tcells t).toArray] w (LaidN w (bodL t.key)) := by
  obtain ⟨LL, HLL⟩ : ∃ LL, Hid (bodL t.key = LL) := ⟨_, rfl⟩
  rw [HLL.out]
  have RT := Row.new w 45 (tcells t)
  have T0 : (tcells t)[0]? = some (.int .u8 3) := by show some (Value.int .u8 (t.ty : Int)) = _; rw [hy]; rfl
  have T1 : (tcells t)[1]? = some (.int .u16 (t.nonce : Int)) := rfl
  have h1 := hf.nonce
  have HE : Hid (bodL t.key = [t.nonce].flatMap hw) := bodL_3 t.key hy
  rw [HLL.out] at HE
  clear hy hf
  have HB : Hid (∀ x ∈ [t.nonce], x < 65536) := fun x hx => by simp at hx; subst hx; exact h1
  generalize t.nonce = x at *
  clear h1
  have NS : Src ((w.alloc (.cells (tcells t).toArray 45)).alloc (.cells #[.int .u16 (x : Int)] 36)) (some ⟨w.heap.size + 1, 0, none⟩) 1 1 (n16 [x]) := by
    have := new_src_of (w.alloc (.cells (tcells t).toArray 45)) #[.int .u16 (x : Int)] 36
    simpa [n16] using this
  go_enter Tryz.func66, Tryz.ntmps66
  go_wp2_with (go_at_call 89; refine (callsN (put16_n none 0 0 [] (some ⟨w.heap.size + 1, 0, none⟩) 1 1 [x] _ (Src.nil _) NS HB.out (by simp) (by simp))).mono ?_; rintro e w1 ⟨a1, n1, c1, rfl, o1, b1⟩)
  go_ret
  exact ⟨a1, n1, c1, rfl, own_cast (by rw [HE.out]; simp) (own_le o1 (by simp; omega)), bt (bt (ba _ _) (ba _ _)) b1⟩
set_option maxHeartbeats 4000000 in
theorem body_4 (t : Tl) (w : World) (ht : TSrc w t) (hf : TFit t.key) (hy : t.ty = 4) (hn : t.sn ≤ 2) : Calls Tryz.prog 66 #[.agg (tcells t).toArray] w (LaidN w (bodL t.key)) := by
  obtain ⟨LL, HLL⟩ : ∃ LL, Hid (bodL t.key = LL) := ⟨_, rfl⟩
  rw [HLL.out]
  have RT := Row.new w 45 (tcells t)
  have T0 : (tcells t)[0]? = some (.int .u8 4) := by show some (Value.int .u8 (t.ty : Int)) = _; rw [hy]; rfl
  have h1 := hf.seq
  have h2 := hf.intv
  have HE : Hid (bodL t.key = [if t.uni = true then 32768 else 0, t.seq, t.intv].flatMap hw ++ timL t.st) := bodL_4 t.key hy
  rw [HLL.out] at HE
  obtain ⟨F, hF⟩ : ∃ F : Nat, (if t.uni = true then 32768 else 0) = F := ⟨_, rfl⟩
  have hFl : F < 65536 := by rw [← hF]; split <;> omega
  have HFL : ∀ W : World, Calls Tryz.prog 100 #[.agg (tcells t).toArray] W (Gives W (.int .u16 (F : Int))) := fun W => by rw [← hF]; exact Go.Proofs.YtdibjgcokebfbaaGreat.flags_any t W
  rw [hF] at HE
  have HB : Hid (∀ x ∈ [F, t.seq, t.intv], x < 65536) := fun x hx => by simp at hx; rcases hx with rfl | rfl | rfl; exact hFl; exact h1; exact h2
  have HT : Hid ((timL t.st).length ≤ 1000) := Nat.le_trans (timL_len t.st (by have := TSrc.len ht; omega)) (by decide)
  have sT : Src _ t.sa t.sn t.sc (wcells t.st) := Src.alloc ht (.cells (tcells t).toArray 45)
  clear hy ht hf h1 h2 hF hFl
  go_enter Tryz.func66, Tryz.ntmps66
  go_wp2
  refine name_world (R := fun W => Code.wp _ _ _ _ W) (P := fun W => Below w.heap.size w W ∧ Row W w.heap.size 45 (tcells t) ∧ Src W t.sa t.sn t.sc (wcells t.st)) _ ⟨ba _ _, RT, sT⟩ ?_
  rintro X ⟨hB, hR, sT'⟩
  have rX := hR.below (bd X) hR.lt
  have bX := bt hB (bd X)
  clear hR hB
  replace sT := Src.below sT' (bd X) (Src.lt sT')
  clear sT'
  refine wp_region_noPanic ?_
  refine wp_region_held_drew (S := fun W => Row W w.heap.size 45 (tcells t)) (by kernel_rfl) (rX) (fun hHeld => ?_)
  refine tL 0 rfl (yT t (fun W hW => hW) (by rfl) rfl rfl) ?_
  refine tA 2 ?_
  refine tA 3 ?_ (hv := by intro w hSw; (try dsimp only at hSw); have hm := hSw.tc.c3; go_simp <;> with_reducible rfl)
  refine tA 4 ?_
  refine tA 5 ?_ (hv := by intro w hSw; (try dsimp only at hSw); have hm := hSw.tc.c2; go_simp <;> with_reducible rfl)
  refine tA 8 ?_
  refine tA 9 ?_ (hv := by intro w hSw; (try dsimp only at hSw); have hm := hSw.tc.c67; go_simp <;> with_reducible rfl)
  refine r1 1 fun K hK => ?_
  go_simp
  refine (HFL _).mono ?_
  rintro e w1 ⟨rfl, d1⟩
  replace bX := bt bX d1
  replace rX := rX.below d1 rX.lt
  try replace s6 := s6.below d1 s6.lt
  try replace s7 := s7.below d1 s7.lt
  try replace s10 := s10.below d1 s10.lt
  try replace s11 := s11.below d1 s11.lt
  try replace oF := oF.below d1 oF.lt
  try replace sT := sT.below d1 sT.lt
  clear d1
  refine oK hK (by exact rX) fun hHeld => ?_
  clear hK K
  refine r1 6 fun K hK => ?_
  refine sBS [(0, .tmp 36), (1, .tmp 38), (2, .tmp 40)] (n16 [F, t.seq, t.intv]) (by rfl) rfl (rb16_3 _ _ _) rfl ?_
  intro g6 w6 s6 d6
  replace bX := bt bX d6
  replace rX := rX.below d6 rX.lt
  try replace s7 := s7.below d6 s7.lt
  try replace s10 := s10.below d6 s10.lt
  try replace s11 := s11.below d6 s11.lt
  try replace oF := oF.below d6 oF.lt
  try replace sT := sT.below d6 sT.lt
  clear d6
  refine oK hK (by exact rX) fun hHeld => ?_
  clear hK K
  refine r1 7 fun K hK => ?_
  go_simp
  refine (callsN (put16_n none 0 0 [] (some ⟨g6, 0, none⟩) 3 3 [F, t.seq, t.intv] _ (Src.nil _) s6 HB.out (by simp) (by simp))).mono ?_
  rintro e w7 ⟨a7, n7, c7, rfl, o7, d7⟩
  have s7 := own_srcP o7
  clear o7
  replace bX := bt bX d7
  replace rX := rX.below d7 rX.lt
  try replace s6 := s6.below d7 s6.lt
  try replace s10 := s10.below d7 s10.lt
  try replace s11 := s11.below d7 s11.lt
  try replace oF := oF.below d7 oF.lt
  try replace sT := sT.below d7 sT.lt
  clear d7
  refine oK hK (by exact rX) fun hHeld => ?_
  clear hK K
  refine r1 10 fun K hK => ?_
  go_simp
  refine (callsN (times_any t.sa t.sn t.sc t.st _ sT hn)).mono ?_
  rintro e w10 ⟨a10, n10, c10, rfl, o10, d10⟩
  have s10 := own_srcP o10
  clear o10
  replace bX := bt bX d10
  replace rX := rX.below d10 rX.lt
  try replace s6 := s6.below d10 s6.lt
  try replace s7 := s7.below d10 s7.lt
  try replace s11 := s11.below d10 s11.lt
  try replace oF := oF.below d10 oF.lt
  try replace sT := sT.below d10 sT.lt
  clear d10
  refine oK hK (by exact rX) fun hHeld => ?_
  clear hK K
  refine r1 11 fun K hK => ?_
  refine sBS [(0, .tmp 45)] (svcells [⟨a10, n10, c10, timL t.st⟩]) (by rfl) rfl (rbS_1 ⟨a10, n10, c10, timL t.st⟩) rfl ?_
  intro g11 w11 s11 d11
  replace bX := bt bX d11
  replace rX := rX.below d11 rX.lt
  try replace s6 := s6.below d11 s6.lt
  try replace s7 := s7.below d11 s7.lt
  try replace s10 := s10.below d11 s10.lt
  try replace oF := oF.below d11 oF.lt
  try replace sT := sT.below d11 sT.lt
  clear d11
  refine oK hK (by exact rX) fun hHeld => ?_
  clear hK K
  refine r1 12 fun K hK => ?_
  go_simp
  refine (callsN (putb_1 a7 _ c7 _ (some ⟨g11, 0, none⟩) ⟨a10, n10, c10, timL t.st⟩ _ s7 s11 s10 (by simp [hw_len]) HT.out)).mono ?_
  rintro e wF ⟨aF, nF, cF, rfl, oF, d12⟩
  have sF := bX.size
  replace bX := bt bX d12
  replace rX := rX.below d12 rX.lt
  try replace s6 := s6.below d12 s6.lt
  try replace s7 := s7.below d12 s7.lt
  try replace s10 := s10.below d12 s10.lt
  try replace s11 := s11.below d12 s11.lt
  try replace sT := sT.below d12 sT.lt
  clear d12
  refine oK hK (by exact rX) fun hHeld => ?_
  clear hK K
  refine tA 13 ?_
  refine dN ?_
  refine NoPanic.normal ?_
  go_wp2
  go_ret
  exact ⟨aF, nF, cF, rfl, own_cast (by rw [HE.out]; simp) (own_le oF sF), bX⟩
set_option maxHeartbeats 4000000 in
theorem body_5 (t : Tl) (w : World) (ht : TSrc w t) (hf : TFit t.key) (hy : t.ty = 5) (hn : t.sn ≤ 2) : Calls Tryz.prog 66 #[.agg (tcells t).toArray] w (LaidN w (bodL t.key)) := by
  obtain ⟨LL, HLL⟩ : ∃ LL, Hid (bodL t.key = LL) := ⟨_, rfl⟩
  rw [HLL.out]
  have RT := Row.new w 45 (tcells t)
  have T0 : (tcells t)[0]? = some (.int .u8 5) := by show some (Value.int .u8 (t.ty : Int)) = _; rw [hy]; rfl
  have h1 := hf.rx
  have h2 := hf.intv
  have HE : Hid (bodL t.key = [(whmE t.key).toNat, 0].map UInt8.ofNat ++ [t.rx, t.intv].flatMap hw ++ whmL t.key ++ timL t.st) := bodL_5 t.key hy
  rw [HLL.out] at HE
  have HW := whom_any t
  have HX : Hid (∀ x ∈ [(whmE t.key).toNat, 0], x < 256) := fun x hx => by simp at hx; rcases hx with rfl | rfl; exact (whmE t.key).toNat_lt; decide
  have HB : Hid (∀ x ∈ [t.rx, t.intv], x < 65536) := fun x hx => by simp at hx; rcases hx with rfl | rfl; exact h1; exact h2
  have HT : Hid ((timL t.st).length ≤ 1000) := Nat.le_trans (timL_len t.st (by have := TSrc.len ht; omega)) (by decide)
  have HM : Hid ((whmL t.key).length ≤ 1000) := Nat.le_trans (whmL_len _) (by decide)
  have sT : Src _ t.sa t.sn t.sc (wcells t.st) := Src.alloc ht (.cells (tcells t).toArray 45)
  generalize whmE t.key = E at *
  generalize whmL t.key = M at *
  clear hy ht hf h1 h2
  go_enter Tryz.func66, Tryz.ntmps66
  go_wp2_with (first
    | (go_at_call 102; refine (HW _).mono ?_; rintro e w1 ⟨ma, mn, mc, rfl, sM, b1⟩; have r1 := RT.below b1 RT.lt; have B1 := bt (ba w (.cells (tcells t).toArray 45)) b1; have t1 := Src.below sT b1 (Src.lt sT))
    | (refine ldT (.tmp 1) (by rfl) rfl w.heap.size t rfl RT ?_))
  have rX := r1.below (bd w1) r1.lt
  have bX := bt B1 (bd w1)
  replace sT := Src.below t1 (bd w1) (Src.lt t1)
  replace sM := Src.below sM (bd w1) (Src.lt sM)
  clear r1 B1 t1
  refine wp_region_noPanic ?_
  refine wp_region_held_drew (S := fun W => Row W w.heap.size 45 (tcells t)) (by kernel_rfl) (rX) (fun hHeld => ?_)
  refine tA 0 ?_
  refine tA 3 ?_
  refine tA 4 ?_ (hv := by intro w hSw; (try dsimp only at hSw); have hm := hSw.tc.c4; go_simp <;> with_reducible rfl)
  refine tA 5 ?_
  refine tA 6 ?_ (hv := by intro w hSw; (try dsimp only at hSw); have hm := hSw.tc.c2; go_simp <;> with_reducible rfl)
  refine rM [1,7] ?_
  refine cL (fun K hK => ?_) ?_
  · skip
    refine sBS [(0, .tmp 55), (1, .const (.int .u8 0))] (n8 [E.toNat, 0]) (by rfl) rfl (rb8_2 _ _) rfl ?_
    intro g1 w2 s1 d1
    replace bX := bt bX d1
    replace rX := rX.below d1 rX.lt
    try replace s2 := s2.below d1 s2.lt
    try replace s7 := s7.below d1 s7.lt
    try replace s8 := s8.below d1 s8.lt
    try replace sT := sT.below d1 sT.lt
    try replace sM := sM.below d1 sM.lt
    clear d1
    refine oK hK (by exact rX) fun hHeld => ?_
    clear hK K
    refine rM [2,7] ?_
    refine cL (fun K hK => ?_) ?_
    · skip
      go_simp
      refine (callsN (put8_n none 0 0 [] (some ⟨g1, 0, none⟩) 2 2 [E.toNat, 0] _ (Src.nil _) s1 HX.out (by simp) (by simp))).mono ?_
      rintro e w3 ⟨a2, n2, c2, rfl, o2, d2⟩
      have s2 := own_srcP o2
      clear o2
      replace bX := bt bX d2
      replace rX := rX.below d2 rX.lt
      try replace s1 := s1.below d2 s1.lt
      try replace s7 := s7.below d2 s7.lt
      try replace s8 := s8.below d2 s8.lt
      try replace sT := sT.below d2 sT.lt
      try replace sM := sM.below d2 sM.lt
      clear d2
      refine oK hK (by exact rX) fun hHeld => ?_
      clear hK K
      refine r1 7 fun K hK => ?_
      refine sBS [(0, .tmp 59), (1, .tmp 61)] (n16 [t.rx, t.intv]) (by rfl) rfl (rb16_2 _ _) rfl ?_
      intro g7 w7 s7 d7
      replace bX := bt bX d7
      replace rX := rX.below d7 rX.lt
      try replace s1 := s1.below d7 s1.lt
      try replace s2 := s2.below d7 s2.lt
      try replace s8 := s8.below d7 s8.lt
      try replace sT := sT.below d7 sT.lt
      try replace sM := sM.below d7 sM.lt
      clear d7
      refine oK hK (by exact rX) fun hHeld => ?_
      clear hK K
      refine r1 8 fun K hK => ?_
      go_simp
      refine (callsN (put16_n a2 _ c2 _ (some ⟨g7, 0, none⟩) 2 2 [t.rx, t.intv] _ s2 s7 HB.out (by simp) (by simp))).mono ?_
      rintro e w8 ⟨a8, n8, c8, rfl, o8, d8⟩
      have s8 := own_srcP o8
      clear o8
      replace bX := bt bX d8
      replace rX := rX.below d8 rX.lt
      try replace s1 := s1.below d8 s1.lt
      try replace s2 := s2.below d8 s2.lt
      try replace s7 := s7.below d8 s7.lt
      try replace sT := sT.below d8 sT.lt
      try replace sM := sM.below d8 sM.lt
      clear d8
      refine oK hK (by exact rX) fun hHeld => ?_
      clear hK K
      refine tA 9 ?_
      refine dN ?_
      refine NoPanic.normal ?_
      have HL8 : Hid (([] ++ List.map UInt8.ofNat [E.toNat, 0] ++ List.flatMap hw [t.rx, t.intv]).length ≤ 1000) := (by show _ ≤ _; simp [hw_len])
      clear hHeld s1 s2 s7
      have c67 := rX.tc.c67
      go_wp2_with (first
        | (go_at_call 91; have kk := sZ; refine (callsN (putb_2 a8 _ c8 _ (some ⟨wZ.heap.size, 0, none⟩) ⟨ma, mn, mc, M⟩ ⟨aZ, nZ, cZ, timL t.st⟩ _ (Src.alloc (Src.below s8 dZ (Src.lt s8)) _) (new_src_of wZ #[.slice ma mn mc, .slice aZ nZ cZ] 46) (Src.alloc (Src.below sM dZ (Src.lt sM)) _) (sZ.alloc _) HL8.out HM.out HT.out)).mono ?_; rintro e wF ⟨aF, nF, cF, rfl, oF, dF⟩)
        | (go_at_call 101; refine (callsN (times_any t.sa t.sn t.sc t.st _ sT hn)).mono ?_; rintro e wZ ⟨aZ, nZ, cZ, rfl, oZ, dZ⟩; have sZ := own_srcP oZ))
      go_ret
      have BF := bt (bt bX dZ) (ba wZ (.cells #[.slice ma mn mc, .slice aZ nZ cZ] 46))
      exact ⟨aF, nF, cF, rfl, own_cast (by rw [HE.out]; simp) (own_le oF BF.size), bt BF dF⟩
    refine cE fun K hK => ?_
    refine sBS [(0, .tmp 59), (1, .tmp 61)] (n16 [t.rx, t.intv]) (by rfl) rfl (rb16_2 _ _) rfl ?_
    intro g7 w7 s7 d7
    replace bX := bt bX d7
    replace rX := rX.below d7 rX.lt
    try replace s1 := s1.below d7 s1.lt
    try replace s2 := s2.below d7 s2.lt
    try replace s8 := s8.below d7 s8.lt
    try replace sT := sT.below d7 sT.lt
    try replace sM := sM.below d7 sM.lt
    clear d7
    refine oK hK (by exact rX) fun hHeld => ?_
    clear hK K
    refine r1 2 fun K hK => ?_
    go_simp
    refine (callsN (put8_n none 0 0 [] (some ⟨g1, 0, none⟩) 2 2 [E.toNat, 0] _ (Src.nil _) s1 HX.out (by simp) (by simp))).mono ?_
    rintro e w3 ⟨a2, n2, c2, rfl, o2, d2⟩
    have s2 := own_srcP o2
    clear o2
    replace bX := bt bX d2
    replace rX := rX.below d2 rX.lt
    try replace s1 := s1.below d2 s1.lt
    try replace s7 := s7.below d2 s7.lt
    try replace s8 := s8.below d2 s8.lt
    try replace sT := sT.below d2 sT.lt
    try replace sM := sM.below d2 sM.lt
    clear d2
    refine oK hK (by exact rX) fun hHeld => ?_
    clear hK K
    refine r1 8 fun K hK => ?_
    go_simp
    refine (callsN (put16_n a2 _ c2 _ (some ⟨g7, 0, none⟩) 2 2 [t.rx, t.intv] _ s2 s7 HB.out (by simp) (by simp))).mono ?_
    rintro e w8 ⟨a8, n8, c8, rfl, o8, d8⟩
    have s8 := own_srcP o8
    clear o8
    replace bX := bt bX d8
    replace rX := rX.below d8 rX.lt
    try replace s1 := s1.below d8 s1.lt
    try replace s2 := s2.below d8 s2.lt
    try replace s7 := s7.below d8 s7.lt
    try replace sT := sT.below d8 sT.lt
    try replace sM := sM.below d8 sM.lt
    clear d8
    refine oK hK (by exact rX) fun hHeld => ?_
    clear hK K
    refine tA 9 ?_
    refine dN ?_
    refine NoPanic.normal ?_
    have HL8 : Hid (([] ++ List.map UInt8.ofNat [E.toNat, 0] ++ List.flatMap hw [t.rx, t.intv]).length ≤ 1000) := (by show _ ≤ _; simp [hw_len])
    clear hHeld s1 s2 s7
    have c67 := rX.tc.c67
    go_wp2_with (first
      | (go_at_call 91; have kk := sZ; refine (callsN (putb_2 a8 _ c8 _ (some ⟨wZ.heap.size, 0, none⟩) ⟨ma, mn, mc, M⟩ ⟨aZ, nZ, cZ, timL t.st⟩ _ (Src.alloc (Src.below s8 dZ (Src.lt s8)) _) (new_src_of wZ #[.slice ma mn mc, .slice aZ nZ cZ] 46) (Src.alloc (Src.below sM dZ (Src.lt sM)) _) (sZ.alloc _) HL8.out HM.out HT.out)).mono ?_; rintro e wF ⟨aF, nF, cF, rfl, oF, dF⟩)
      | (go_at_call 101; refine (callsN (times_any t.sa t.sn t.sc t.st _ sT hn)).mono ?_; rintro e wZ ⟨aZ, nZ, cZ, rfl, oZ, dZ⟩; have sZ := own_srcP oZ))
    go_ret
    have BF := bt (bt bX dZ) (ba wZ (.cells #[.slice ma mn mc, .slice aZ nZ cZ] 46))
    exact ⟨aF, nF, cF, rfl, own_cast (by rw [HE.out]; simp) (own_le oF BF.size), bt BF dF⟩
  refine cE fun K hK => ?_
  refine sBS [(0, .tmp 59), (1, .tmp 61)] (n16 [t.rx, t.intv]) (by rfl) rfl (rb16_2 _ _) rfl ?_
  intro g7 w7 s7 d7
  replace bX := bt bX d7
  replace rX := rX.below d7 rX.lt
  try replace s1 := s1.below d7 s1.lt
  try replace s2 := s2.below d7 s2.lt
  try replace s8 := s8.below d7 s8.lt
  try replace sT := sT.below d7 sT.lt
  try replace sM := sM.below d7 sM.lt
  clear d7
  refine oK hK (by exact rX) fun hHeld => ?_
  clear hK K
  refine r1 1 fun K hK => ?_
  refine sBS [(0, .tmp 55), (1, .const (.int .u8 0))] (n8 [E.toNat, 0]) (by rfl) rfl (rb8_2 _ _) rfl ?_
  intro g1 w2 s1 d1
  replace bX := bt bX d1
  replace rX := rX.below d1 rX.lt
  try replace s2 := s2.below d1 s2.lt
  try replace s7 := s7.below d1 s7.lt
  try replace s8 := s8.below d1 s8.lt
  try replace sT := sT.below d1 sT.lt
  try replace sM := sM.below d1 sM.lt
  clear d1
  refine oK hK (by exact rX) fun hHeld => ?_
  clear hK K
  refine r1 2 fun K hK => ?_
  go_simp
  refine (callsN (put8_n none 0 0 [] (some ⟨g1, 0, none⟩) 2 2 [E.toNat, 0] _ (Src.nil _) s1 HX.out (by simp) (by simp))).mono ?_
  rintro e w3 ⟨a2, n2, c2, rfl, o2, d2⟩
  have s2 := own_srcP o2
  clear o2
  replace bX := bt bX d2
  replace rX := rX.below d2 rX.lt
  try replace s1 := s1.below d2 s1.lt
  try replace s7 := s7.below d2 s7.lt
  try replace s8 := s8.below d2 s8.lt
  try replace sT := sT.below d2 sT.lt
  try replace sM := sM.below d2 sM.lt
  clear d2
  refine oK hK (by exact rX) fun hHeld => ?_
  clear hK K
  refine r1 8 fun K hK => ?_
  go_simp
  refine (callsN (put16_n a2 _ c2 _ (some ⟨g7, 0, none⟩) 2 2 [t.rx, t.intv] _ s2 s7 HB.out (by simp) (by simp))).mono ?_
  rintro e w8 ⟨a8, n8, c8, rfl, o8, d8⟩
  have s8 := own_srcP o8
  clear o8
  replace bX := bt bX d8
  replace rX := rX.below d8 rX.lt
  try replace s1 := s1.below d8 s1.lt
  try replace s2 := s2.below d8 s2.lt
  try replace s7 := s7.below d8 s7.lt
  try replace sT := sT.below d8 sT.lt
  try replace sM := sM.below d8 sM.lt
  clear d8
  refine oK hK (by exact rX) fun hHeld => ?_
  clear hK K
  refine tA 9 ?_
  refine dN ?_
  refine NoPanic.normal ?_
  have HL8 : Hid (([] ++ List.map UInt8.ofNat [E.toNat, 0] ++ List.flatMap hw [t.rx, t.intv]).length ≤ 1000) := (by show _ ≤ _; simp [hw_len])
  clear hHeld s1 s2 s7
  have c67 := rX.tc.c67
  go_wp2_with (first
    | (go_at_call 91; have kk := sZ; refine (callsN (putb_2 a8 _ c8 _ (some ⟨wZ.heap.size, 0, none⟩) ⟨ma, mn, mc, M⟩ ⟨aZ, nZ, cZ, timL t.st⟩ _ (Src.alloc (Src.below s8 dZ (Src.lt s8)) _) (new_src_of wZ #[.slice ma mn mc, .slice aZ nZ cZ] 46) (Src.alloc (Src.below sM dZ (Src.lt sM)) _) (sZ.alloc _) HL8.out HM.out HT.out)).mono ?_; rintro e wF ⟨aF, nF, cF, rfl, oF, dF⟩)
    | (go_at_call 101; refine (callsN (times_any t.sa t.sn t.sc t.st _ sT hn)).mono ?_; rintro e wZ ⟨aZ, nZ, cZ, rfl, oZ, dZ⟩; have sZ := own_srcP oZ))
  go_ret
  have BF := bt (bt bX dZ) (ba wZ (.cells #[.slice ma mn mc, .slice aZ nZ cZ] 46))
  exact ⟨aF, nF, cF, rfl, own_cast (by rw [HE.out]; simp) (own_le oF BF.size), bt BF dF⟩
set_option maxHeartbeats 4000000 in
theorem body_8 (t : Tl) (w : World) (hf : TFit t.key) (hy : t.ty = 8) (ha : t.all = true ∨ (0 ≤ t.pr.d.n ∧ t.pr.d.n ≤ 128)) (h0 : 0 ≤ t.pr.s.n) (h1' : t.pr.s.n ≤ 128) : Calls Tryz.prog 66 #[.agg (tcells t).toArray] w (LaidN w (bodL t.key)) := by
  obtain ⟨LL, HLL⟩ : ∃ LL, Hid (bodL t.key = LL) := ⟨_, rfl⟩
  rw [HLL.out]
  have RT := Row.new w 45 (tcells t)
  have T0 : (tcells t)[0]? = some (.int .u8 8) := by show some (Value.int .u8 (t.ty : Int)) = _; rw [hy]; rfl
  have HE : Hid (bodL t.key = [(whrE t.key).toNat, 0, whrN t.key, 0].map UInt8.ofNat ++ [t.intv, t.seq, t.met].flatMap hw ++ whrL t.key ++ srcL t.pr) := bodL_8 t.key hy
  rw [HLL.out] at HE
  have HW := fun W => where_any t W ha
  have HS := fun W => ksource_any t.pr W h0 h1'
  have HM : Hid ((whrL t.key).length ≤ 1000) := Nat.le_trans (whrL_len _) (by decide)
  have HC : Hid ((srcL t.pr).length ≤ 1000) := Nat.le_trans (srcL_len _) (by decide)
  have hN := whrN_lt t.key ha
  have h1 := hf.intv
  have h2 := hf.seq
  have h3 := hf.met
  have HX : Hid (∀ x ∈ [(whrE t.key).toNat, 0, whrN t.key, 0], x < 256) := fun x hx => by simp at hx; rcases hx with rfl | rfl | rfl | rfl; exact (whrE t.key).toNat_lt; decide; exact hN; decide
  have HB : Hid (∀ x ∈ [t.intv, t.seq, t.met], x < 65536) := fun x hx => by simp at hx; rcases hx with rfl | rfl | rfl; exact h1; exact h2; exact h3
  generalize whrE t.key = E at *
  generalize whrN t.key = N at *
  generalize whrL t.key = M at *
  generalize srcL t.pr = C at *
  have hN' : (N : Int) < 256 := by omega
  clear hy hf h1 h2 h3 hN
  go_enter Tryz.func66, Tryz.ntmps66
  go_wp2_with (first
    | (go_at_call 103; refine (HW _).mono ?_; rintro e w1 ⟨ma, mn, mc, rfl, sM, b1⟩; have r1 := RT.below b1 RT.lt; have B1 := bt (ba w (.cells (tcells t).toArray 45)) b1)
    | (refine ldT (.tmp 1) (by rfl) rfl w.heap.size t rfl RT ?_))
  have rX := r1.below (bd w1) r1.lt
  have bX := bt B1 (bd w1)
  replace sM := Src.below sM (bd w1) (Src.lt sM)
  clear r1 B1
  refine wp_region_noPanic ?_
  refine wp_region_held_drew (S := fun W => Row W w.heap.size 45 (tcells t)) (by kernel_rfl) (rX) (fun hHeld => ?_)
  refine tA 0 ?_
  refine tA 1 ?_
  refine tA 4 ?_
  refine tA 5 ?_ (hv := by intro w hSw; (try dsimp only at hSw); have hm := hSw.tc.c2; go_simp <;> with_reducible rfl)
  refine tA 6 ?_
  refine tA 7 ?_ (hv := by intro w hSw; (try dsimp only at hSw); have hm := hSw.tc.c3; go_simp <;> with_reducible rfl)
  refine tA 8 ?_
  refine tA 9 ?_ (hv := by intro w hSw; (try dsimp only at hSw); have hm := hSw.tc.c5; go_simp <;> with_reducible rfl)
  refine rM [2,10] ?_
  refine cL (fun K hK => ?_) ?_
  · skip
    refine sBS [(0, .tmp 79), (1, .const (.int .u8 0)), (2, .tmp 80), (3, .const (.int .u8 0))] (n8 [E.toNat, 0, N, 0]) (by rfl) rfl (rb8_4 _ _ _ _) rfl ?_
    intro g2 w2 s2 d2
    replace bX := bt bX d2
    replace rX := rX.below d2 rX.lt
    try replace s3 := s3.below d2 s3.lt
    try replace s10 := s10.below d2 s10.lt
    try replace s8 := s8.below d2 s8.lt
    try replace sM := sM.below d2 sM.lt
    clear d2
    refine oK hK (by exact rX) fun hHeld => ?_
    clear hK K
    refine rM [3,10] ?_
    refine cL (fun K hK => ?_) ?_
    · skip
      go_simp
      refine (callsN (put8_n none 0 0 [] (some ⟨g2, 0, none⟩) 4 4 [E.toNat, 0, N, 0] _ (Src.nil _) s2 HX.out (by simp) (by simp))).mono ?_
      rintro e w3 ⟨a3, n3, c3, rfl, o3, d3⟩
      have s3 := own_srcP o3
      clear o3
      replace bX := bt bX d3
      replace rX := rX.below d3 rX.lt
      try replace s2 := s2.below d3 s2.lt
      try replace s10 := s10.below d3 s10.lt
      try replace s8 := s8.below d3 s8.lt
      try replace sM := sM.below d3 sM.lt
      clear d3
      refine oK hK (by exact rX) fun hHeld => ?_
      clear hK K
      refine r1 10 fun K hK => ?_
      refine sBS [(0, .tmp 84), (1, .tmp 86), (2, .tmp 88)] (n16 [t.intv, t.seq, t.met]) (by rfl) rfl (rb16_3 _ _ _) rfl ?_
      intro g10 w10 s10 d10
      replace bX := bt bX d10
      replace rX := rX.below d10 rX.lt
      try replace s2 := s2.below d10 s2.lt
      try replace s3 := s3.below d10 s3.lt
      try replace s8 := s8.below d10 s8.lt
      try replace sM := sM.below d10 sM.lt
      clear d10
      refine oK hK (by exact rX) fun hHeld => ?_
      clear hK K
      refine r1 11 fun K hK => ?_
      go_simp
      refine (callsN (put16_n a3 _ c3 _ (some ⟨g10, 0, none⟩) 3 3 [t.intv, t.seq, t.met] _ s3 s10 HB.out (by simp) (by simp))).mono ?_
      rintro e w11 ⟨a8, n8, c8, rfl, o8, d11⟩
      have s8 := own_srcP o8
      clear o8
      replace bX := bt bX d11
      replace rX := rX.below d11 rX.lt
      try replace s2 := s2.below d11 s2.lt
      try replace s3 := s3.below d11 s3.lt
      try replace s10 := s10.below d11 s10.lt
      try replace sM := sM.below d11 sM.lt
      clear d11
      refine oK hK (by exact rX) fun hHeld => ?_
      clear hK K
      refine tA 12 ?_
      refine dN ?_
      refine NoPanic.normal ?_
      have HL8 : Hid (([] ++ List.map UInt8.ofNat [E.toNat, 0, N, 0] ++ List.flatMap hw [t.intv, t.seq, t.met]).length ≤ 1000) := (by show _ ≤ _; simp [hw_len])
      clear hHeld s2 s3 s10
      have rQ := rX.rPr
      go_wp2_with (first
        | (go_at_call 91; have kk := sZ; refine (callsN (putb_2 a8 _ c8 _ (some ⟨wZ.heap.size, 0, none⟩) ⟨ma, mn, mc, M⟩ ⟨aZ, nZ, cZ, C⟩ _ (Src.alloc (Src.below s8 dZ (Src.lt s8)) _) (new_src_of wZ #[.slice ma mn mc, .slice aZ nZ cZ] 46) (Src.alloc (Src.below sM dZ (Src.lt sM)) _) (sZ.alloc _) HL8.out HM.out HC.out)).mono ?_; rintro e wF ⟨aF, nF, cF, rfl, oF, dF⟩)
        | (go_at_call 104; refine (callsN (HS _)).mono ?_; rintro e wZ ⟨aZ, nZ, cZ, rfl, oZ, dZ⟩; have sZ := own_srcP oZ)
        | (refine ldQ (.tmp 93) (by rfl) rfl _ _ t.pr rfl rQ ?_))
      go_ret
      have BF := bt (bt bX dZ) (ba wZ (.cells #[.slice ma mn mc, .slice aZ nZ cZ] 46))
      exact ⟨aF, nF, cF, rfl, own_cast (by rw [HE.out]; simp) (own_le oF BF.size), bt BF dF⟩
    refine cE fun K hK => ?_
    refine sBS [(0, .tmp 84), (1, .tmp 86), (2, .tmp 88)] (n16 [t.intv, t.seq, t.met]) (by rfl) rfl (rb16_3 _ _ _) rfl ?_
    intro g10 w10 s10 d10
    replace bX := bt bX d10
    replace rX := rX.below d10 rX.lt
    try replace s2 := s2.below d10 s2.lt
    try replace s3 := s3.below d10 s3.lt
    try replace s8 := s8.below d10 s8.lt
    try replace sM := sM.below d10 sM.lt
    clear d10
    refine oK hK (by exact rX) fun hHeld => ?_
    clear hK K
    refine r1 3 fun K hK => ?_
    go_simp
    refine (callsN (put8_n none 0 0 [] (some ⟨g2, 0, none⟩) 4 4 [E.toNat, 0, N, 0] _ (Src.nil _) s2 HX.out (by simp) (by simp))).mono ?_
    rintro e w3 ⟨a3, n3, c3, rfl, o3, d3⟩
    have s3 := own_srcP o3
    clear o3
    replace bX := bt bX d3
    replace rX := rX.below d3 rX.lt
    try replace s2 := s2.below d3 s2.lt
    try replace s10 := s10.below d3 s10.lt
    try replace s8 := s8.below d3 s8.lt
    try replace sM := sM.below d3 sM.lt
    clear d3
    refine oK hK (by exact rX) fun hHeld => ?_
    clear hK K
    refine r1 11 fun K hK => ?_
    go_simp
    refine (callsN (put16_n a3 _ c3 _ (some ⟨g10, 0, none⟩) 3 3 [t.intv, t.seq, t.met] _ s3 s10 HB.out (by simp) (by simp))).mono ?_
    rintro e w11 ⟨a8, n8, c8, rfl, o8, d11⟩
    have s8 := own_srcP o8
    clear o8
    replace bX := bt bX d11
    replace rX := rX.below d11 rX.lt
    try replace s2 := s2.below d11 s2.lt
    try replace s3 := s3.below d11 s3.lt
    try replace s10 := s10.below d11 s10.lt
    try replace sM := sM.below d11 sM.lt
    clear d11
    refine oK hK (by exact rX) fun hHeld => ?_
    clear hK K
    refine tA 12 ?_
    refine dN ?_
    refine NoPanic.normal ?_
    have HL8 : Hid (([] ++ List.map UInt8.ofNat [E.toNat, 0, N, 0] ++ List.flatMap hw [t.intv, t.seq, t.met]).length ≤ 1000) := (by show _ ≤ _; simp [hw_len])
    clear hHeld s2 s3 s10
    have rQ := rX.rPr
    go_wp2_with (first
      | (go_at_call 91; have kk := sZ; refine (callsN (putb_2 a8 _ c8 _ (some ⟨wZ.heap.size, 0, none⟩) ⟨ma, mn, mc, M⟩ ⟨aZ, nZ, cZ, C⟩ _ (Src.alloc (Src.below s8 dZ (Src.lt s8)) _) (new_src_of wZ #[.slice ma mn mc, .slice aZ nZ cZ] 46) (Src.alloc (Src.below sM dZ (Src.lt sM)) _) (sZ.alloc _) HL8.out HM.out HC.out)).mono ?_; rintro e wF ⟨aF, nF, cF, rfl, oF, dF⟩)
      | (go_at_call 104; refine (callsN (HS _)).mono ?_; rintro e wZ ⟨aZ, nZ, cZ, rfl, oZ, dZ⟩; have sZ := own_srcP oZ)
      | (refine ldQ (.tmp 93) (by rfl) rfl _ _ t.pr rfl rQ ?_))
    go_ret
    have BF := bt (bt bX dZ) (ba wZ (.cells #[.slice ma mn mc, .slice aZ nZ cZ] 46))
    exact ⟨aF, nF, cF, rfl, own_cast (by rw [HE.out]; simp) (own_le oF BF.size), bt BF dF⟩
  refine cE fun K hK => ?_
  refine sBS [(0, .tmp 84), (1, .tmp 86), (2, .tmp 88)] (n16 [t.intv, t.seq, t.met]) (by rfl) rfl (rb16_3 _ _ _) rfl ?_
  intro g10 w10 s10 d10
  replace bX := bt bX d10
  replace rX := rX.below d10 rX.lt
  try replace s2 := s2.below d10 s2.lt
  try replace s3 := s3.below d10 s3.lt
  try replace s8 := s8.below d10 s8.lt
  try replace sM := sM.below d10 sM.lt
  clear d10
  refine oK hK (by exact rX) fun hHeld => ?_
  clear hK K
  refine r1 2 fun K hK => ?_
  refine sBS [(0, .tmp 79), (1, .const (.int .u8 0)), (2, .tmp 80), (3, .const (.int .u8 0))] (n8 [E.toNat, 0, N, 0]) (by rfl) rfl (rb8_4 _ _ _ _) rfl ?_
  intro g2 w2 s2 d2
  replace bX := bt bX d2
  replace rX := rX.below d2 rX.lt
  try replace s3 := s3.below d2 s3.lt
  try replace s10 := s10.below d2 s10.lt
  try replace s8 := s8.below d2 s8.lt
  try replace sM := sM.below d2 sM.lt
  clear d2
  refine oK hK (by exact rX) fun hHeld => ?_
  clear hK K
  refine r1 3 fun K hK => ?_
  go_simp
  refine (callsN (put8_n none 0 0 [] (some ⟨g2, 0, none⟩) 4 4 [E.toNat, 0, N, 0] _ (Src.nil _) s2 HX.out (by simp) (by simp))).mono ?_
  rintro e w3 ⟨a3, n3, c3, rfl, o3, d3⟩
  have s3 := own_srcP o3
  clear o3
  replace bX := bt bX d3
  replace rX := rX.below d3 rX.lt
  try replace s2 := s2.below d3 s2.lt
  try replace s10 := s10.below d3 s10.lt
  try replace s8 := s8.below d3 s8.lt
  try replace sM := sM.below d3 sM.lt
  clear d3
  refine oK hK (by exact rX) fun hHeld => ?_
  clear hK K
  refine r1 11 fun K hK => ?_
  go_simp
  refine (callsN (put16_n a3 _ c3 _ (some ⟨g10, 0, none⟩) 3 3 [t.intv, t.seq, t.met] _ s3 s10 HB.out (by simp) (by simp))).mono ?_
  rintro e w11 ⟨a8, n8, c8, rfl, o8, d11⟩
  have s8 := own_srcP o8
  clear o8
  replace bX := bt bX d11
  replace rX := rX.below d11 rX.lt
  try replace s2 := s2.below d11 s2.lt
  try replace s3 := s3.below d11 s3.lt
  try replace s10 := s10.below d11 s10.lt
  try replace sM := sM.below d11 sM.lt
  clear d11
  refine oK hK (by exact rX) fun hHeld => ?_
  clear hK K
  refine tA 12 ?_
  refine dN ?_
  refine NoPanic.normal ?_
  have HL8 : Hid (([] ++ List.map UInt8.ofNat [E.toNat, 0, N, 0] ++ List.flatMap hw [t.intv, t.seq, t.met]).length ≤ 1000) := (by show _ ≤ _; simp [hw_len])
  clear hHeld s2 s3 s10
  have rQ := rX.rPr
  go_wp2_with (first
    | (go_at_call 91; have kk := sZ; refine (callsN (putb_2 a8 _ c8 _ (some ⟨wZ.heap.size, 0, none⟩) ⟨ma, mn, mc, M⟩ ⟨aZ, nZ, cZ, C⟩ _ (Src.alloc (Src.below s8 dZ (Src.lt s8)) _) (new_src_of wZ #[.slice ma mn mc, .slice aZ nZ cZ] 46) (Src.alloc (Src.below sM dZ (Src.lt sM)) _) (sZ.alloc _) HL8.out HM.out HC.out)).mono ?_; rintro e wF ⟨aF, nF, cF, rfl, oF, dF⟩)
    | (go_at_call 104; refine (callsN (HS _)).mono ?_; rintro e wZ ⟨aZ, nZ, cZ, rfl, oZ, dZ⟩; have sZ := own_srcP oZ)
    | (refine ldQ (.tmp 93) (by rfl) rfl _ _ t.pr rfl rQ ?_))
  go_ret
  have BF := bt (bt bX dZ) (ba wZ (.cells #[.slice ma mn mc, .slice aZ nZ cZ] 46))
  exact ⟨aF, nF, cF, rfl, own_cast (by rw [HE.out]; simp) (own_le oF BF.size), bt BF dF⟩
set_option maxHeartbeats 4000000 in
theorem body_9 (t : Tl) (w : World) (hy : t.ty = 9) (ha : t.all = true ∨ (0 ≤ t.pr.d.n ∧ t.pr.d.n ≤ 128)) (h0 : 0 ≤ t.pr.s.n) (h1' : t.pr.s.n ≤ 128) : Calls Tryz.prog 66 #[.agg (tcells t).toArray] w (LaidN w (bodL t.key)) := by
  obtain ⟨LL, HLL⟩ : ∃ LL, Hid (bodL t.key = LL) := ⟨_, rfl⟩
  rw [HLL.out]
  have RT := Row.new w 45 (tcells t)
  have T0 : (tcells t)[0]? = some (.int .u8 9) := by show some (Value.int .u8 (t.ty : Int)) = _; rw [hy]; rfl
  have HE : Hid (bodL t.key = [(whrE t.key).toNat, whrN t.key].map UInt8.ofNat ++ whrL t.key ++ srcL t.pr) := bodL_9 t.key hy
  rw [HLL.out] at HE
  have HW := fun W => where_any t W ha
  have HS := fun W => ksource_any t.pr W h0 h1'
  have HM : Hid ((whrL t.key).length ≤ 1000) := Nat.le_trans (whrL_len _) (by decide)
  have HC : Hid ((srcL t.pr).length ≤ 1000) := Nat.le_trans (srcL_len _) (by decide)
  have hN := whrN_lt t.key ha
  have HX : Hid (∀ x ∈ [(whrE t.key).toNat, whrN t.key], x < 256) := fun x hx => by simp at hx; rcases hx with rfl | rfl; exact (whrE t.key).toNat_lt; exact hN
  generalize whrE t.key = E at *
  generalize whrN t.key = N at *
  generalize whrL t.key = M at *
  generalize srcL t.pr = C at *
  have hN' : (N : Int) < 256 := by omega
  clear hy hN
  go_enter Tryz.func66, Tryz.ntmps66
  go_wp2_with (first
    | (go_at_call 103; refine (HW _).mono ?_; rintro e w1 ⟨ma, mn, mc, rfl, sM, b1⟩; have r1 := RT.below b1 RT.lt; have B1 := bt (ba w (.cells (tcells t).toArray 45)) b1)
    | (refine ldT (.tmp 1) (by rfl) rfl w.heap.size t rfl RT ?_))
  have rX := r1.below (bd w1) r1.lt
  have bX := bt B1 (bd w1)
  replace sM := Src.below sM (bd w1) (Src.lt sM)
  clear r1 B1
  refine wp_region_noPanic ?_
  refine wp_region_held_drew (S := fun W => Row W w.heap.size 45 (tcells t)) (by kernel_rfl) (rX) (fun hHeld => ?_)
  refine tA 0 ?_
  refine tA 1 ?_
  refine tA 4 ?_
  refine tA 5 ?_
  refine tL 6 rfl (yQ t.pr (fun W hW => hW.rPr) (by rfl) rfl rfl) ?_
  refine r1 2 fun K hK => ?_
  refine sBS [(0, .tmp 106), (1, .tmp 107)] (n8 [E.toNat, N]) (by rfl) rfl (rb8_2 _ _) rfl ?_
  intro g2 w2 s2 d2
  replace bX := bt bX d2
  replace rX := rX.below d2 rX.lt
  try replace s3 := s3.below d2 s3.lt
  try replace sZ := sZ.below d2 sZ.lt
  try replace s8 := s8.below d2 s8.lt
  try replace oF := oF.below d2 oF.lt
  try replace sM := sM.below d2 sM.lt
  clear d2
  refine oK hK (by exact rX) fun hHeld => ?_
  clear hK K
  refine r1 3 fun K hK => ?_
  go_simp
  refine (callsN (put8_n none 0 0 [] (some ⟨g2, 0, none⟩) 2 2 [E.toNat, N] _ (Src.nil _) s2 HX.out (by simp) (by simp))).mono ?_
  rintro e w3 ⟨a3, n3, c3, rfl, o3, d3⟩
  have s3 := own_srcP o3
  clear o3
  replace bX := bt bX d3
  replace rX := rX.below d3 rX.lt
  try replace s2 := s2.below d3 s2.lt
  try replace sZ := sZ.below d3 sZ.lt
  try replace s8 := s8.below d3 s8.lt
  try replace oF := oF.below d3 oF.lt
  try replace sM := sM.below d3 sM.lt
  clear d3
  refine oK hK (by exact rX) fun hHeld => ?_
  clear hK K
  refine r1 7 fun K hK => ?_
  go_simp
  refine (callsN (HS _)).mono ?_
  rintro e w7 ⟨aZ, nZ, cZ, rfl, o7, d7⟩
  have sZ := own_srcP o7
  clear o7
  replace bX := bt bX d7
  replace rX := rX.below d7 rX.lt
  try replace s2 := s2.below d7 s2.lt
  try replace s3 := s3.below d7 s3.lt
  try replace s8 := s8.below d7 s8.lt
  try replace oF := oF.below d7 oF.lt
  try replace sM := sM.below d7 sM.lt
  clear d7
  refine oK hK (by exact rX) fun hHeld => ?_
  clear hK K
  refine r1 8 fun K hK => ?_
  refine sBS [(0, .tmp 110), (1, .tmp 113)] (svcells [⟨ma, mn, mc, M⟩, ⟨aZ, nZ, cZ, C⟩]) (by rfl) rfl (rbS_2 ⟨ma, mn, mc, M⟩ ⟨aZ, nZ, cZ, C⟩) rfl ?_
  intro g8 w8 s8 d8
  replace bX := bt bX d8
  replace rX := rX.below d8 rX.lt
  try replace s2 := s2.below d8 s2.lt
  try replace s3 := s3.below d8 s3.lt
  try replace sZ := sZ.below d8 sZ.lt
  try replace oF := oF.below d8 oF.lt
  try replace sM := sM.below d8 sM.lt
  clear d8
  refine oK hK (by exact rX) fun hHeld => ?_
  clear hK K
  refine r1 9 fun K hK => ?_
  go_simp
  refine (callsN (putb_2 a3 _ c3 _ (some ⟨g8, 0, none⟩) ⟨ma, mn, mc, M⟩ ⟨aZ, nZ, cZ, C⟩ _ s3 s8 sM sZ (by simp) HM.out HC.out)).mono ?_
  rintro e wF ⟨aF, nF, cF, rfl, oF, d9⟩
  have sF := bX.size
  replace bX := bt bX d9
  replace rX := rX.below d9 rX.lt
  try replace s2 := s2.below d9 s2.lt
  try replace s3 := s3.below d9 s3.lt
  try replace sZ := sZ.below d9 sZ.lt
  try replace s8 := s8.below d9 s8.lt
  try replace sM := sM.below d9 sM.lt
  clear d9
  refine oK hK (by exact rX) fun hHeld => ?_
  clear hK K
  refine tA 10 ?_
  refine dN ?_
  refine NoPanic.normal ?_
  go_wp2
  go_ret
  exact ⟨aF, nF, cF, rfl, own_cast (by rw [HE.out]; simp) (own_le oF sF), bX⟩
theorem Row.idSrc {w : World} {g : Nat} {t : Tl} (hr : Row w g 45 (tcells t)) (c : Nat) : Src w (some ⟨g, 9, none⟩) 8 c (bcells t.id.l) :=
  Row.part (pre := tnum t) (mid := icells t.id) hr c rfl (icells_len _)
set_option maxHeartbeats 4000000 in
theorem body_10 (t : Tl) (w : World) (hf : TFit t.key) (hy : t.ty = 10) (ha : t.all = true ∨ (0 ≤ t.pr.d.n ∧ t.pr.d.n ≤ 128)) (h0 : 0 ≤ t.pr.s.n) (h1' : t.pr.s.n ≤ 128) : Calls Tryz.prog 66 #[.agg (tcells t).toArray] w (LaidN w (bodL t.key)) := by
  obtain ⟨LL, HLL⟩ : ∃ LL, Hid (bodL t.key = LL) := ⟨_, rfl⟩
  rw [HLL.out]
  have RT := Row.new w 45 (tcells t)
  have T0 : (tcells t)[0]? = some (.int .u8 10) := by show some (Value.int .u8 (t.ty : Int)) = _; rw [hy]; rfl
  have HE : Hid (bodL t.key = [(whrE t.key).toNat, whrN t.key].map UInt8.ofNat ++ [t.seq].flatMap hw ++ [t.hops, 0].map UInt8.ofNat ++ t.id.l ++ whrL t.key ++ srcL t.pr) := bodL_10 t.key hy
  rw [HLL.out] at HE
  have HW := fun W => where_any t W ha
  have HS := fun W => ksource_any t.pr W h0 h1'
  have HM : Hid ((whrL t.key).length ≤ 1000) := Nat.le_trans (whrL_len _) (by decide)
  have HC : Hid ((srcL t.pr).length ≤ 1000) := Nat.le_trans (srcL_len _) (by decide)
  have hN := whrN_lt t.key ha
  have h1 := hf.seq
  have h2 := hf.hops
  have HX : Hid (∀ x ∈ [(whrE t.key).toNat, whrN t.key], x < 256) := fun x hx => by simp at hx; rcases hx with rfl | rfl; exact (whrE t.key).toNat_lt; exact hN
  have HB : Hid (∀ x ∈ [t.seq], x < 65536) := fun x hx => by simp at hx; subst hx; exact h1
  have HO : Hid (∀ x ∈ [t.hops, 0], x < 256) := fun x hx => by simp at hx; rcases hx with rfl | rfl; exact h2; decide
  have HI : Hid (t.id.l.length ≤ 1000) := by show _ ≤ _; rw [t.id.len]; decide
  generalize whrE t.key = E at *
  generalize whrN t.key = N at *
  generalize whrL t.key = M at *
  generalize srcL t.pr = C at *
  have hN' : (N : Int) < 256 := by omega
  clear hy hf h1 h2 hN
  go_enter Tryz.func66, Tryz.ntmps66
  go_wp2_with (first
    | (go_at_call 103; refine (HW _).mono ?_; rintro e w1 ⟨ma, mn, mc, rfl, sM, b1⟩; have r1 := RT.below b1 RT.lt; have B1 := bt (ba w (.cells (tcells t).toArray 45)) b1)
    | (refine ldT (.tmp 1) (by rfl) rfl w.heap.size t rfl RT ?_))
  have rX := r1.below (bd w1) r1.lt
  have bX := bt B1 (bd w1)
  replace sM := Src.below sM (bd w1) (Src.lt sM)
  clear r1 B1
  refine wp_region_noPanic ?_
  refine wp_region_held_drew (S := fun W => Row W w.heap.size 45 (tcells t)) (by kernel_rfl) (rX) (fun hHeld => ?_)
  refine tA 0 ?_
  refine tA 1 ?_
  refine tA 4 ?_
  refine tA 5 ?_ (hv := by intro w hSw; (try dsimp only at hSw); have hm := hSw.tc.c3; go_simp <;> with_reducible rfl)
  refine tA 8 ?_
  refine tA 9 ?_ (hv := by intro w hSw; (try dsimp only at hSw); have hm := hSw.tc.c6; go_simp <;> with_reducible rfl)
  refine rM [2,6,10] ?_
  refine cL (fun K hK => ?_) ?_
  · skip
    refine sBS [(0, .tmp 122), (1, .tmp 123)] (n8 [E.toNat, N]) (by rfl) rfl (rb8_2 _ _) rfl ?_
    intro g2 w2 s2 d2
    replace bX := bt bX d2
    replace rX := rX.below d2 rX.lt
    try replace s3 := s3.below d2 s3.lt
    try replace s6 := s6.below d2 s6.lt
    try replace s7 := s7.below d2 s7.lt
    try replace s10 := s10.below d2 s10.lt
    try replace s8 := s8.below d2 s8.lt
    try replace sM := sM.below d2 sM.lt
    clear d2
    refine oK hK (by exact rX) fun hHeld => ?_
    clear hK K
    refine rM [3,6,10] ?_
    refine cL (fun K hK => ?_) ?_
    · skip
      go_simp
      refine (callsN (put8_n none 0 0 [] (some ⟨g2, 0, none⟩) 2 2 [E.toNat, N] _ (Src.nil _) s2 HX.out (by simp) (by simp))).mono ?_
      rintro e w3 ⟨a3, n3, c3, rfl, o3, d3⟩
      have s3 := own_srcP o3
      clear o3
      replace bX := bt bX d3
      replace rX := rX.below d3 rX.lt
      try replace s2 := s2.below d3 s2.lt
      try replace s6 := s6.below d3 s6.lt
      try replace s7 := s7.below d3 s7.lt
      try replace s10 := s10.below d3 s10.lt
      try replace s8 := s8.below d3 s8.lt
      try replace sM := sM.below d3 sM.lt
      clear d3
      refine oK hK (by exact rX) fun hHeld => ?_
      clear hK K
      refine rM [6,10] ?_
      refine cL (fun K hK => ?_) ?_
      · skip
        refine sBS [(0, .tmp 127)] (n16 [t.seq]) (by rfl) rfl (rb16_1 _) rfl ?_
        intro g6 w6 s6 d6
        replace bX := bt bX d6
        replace rX := rX.below d6 rX.lt
        try replace s2 := s2.below d6 s2.lt
        try replace s3 := s3.below d6 s3.lt
        try replace s7 := s7.below d6 s7.lt
        try replace s10 := s10.below d6 s10.lt
        try replace s8 := s8.below d6 s8.lt
        try replace sM := sM.below d6 sM.lt
        clear d6
        refine oK hK (by exact rX) fun hHeld => ?_
        clear hK K
        refine rM [7,10] ?_
        refine cL (fun K hK => ?_) ?_
        · skip
          go_simp
          refine (callsN (put16_n a3 _ c3 _ (some ⟨g6, 0, none⟩) 1 1 [t.seq] _ s3 s6 HB.out (by simp) (by simp))).mono ?_
          rintro e w7 ⟨a7, n7, c7, rfl, o7, d7⟩
          have s7 := own_srcP o7
          clear o7
          replace bX := bt bX d7
          replace rX := rX.below d7 rX.lt
          try replace s2 := s2.below d7 s2.lt
          try replace s3 := s3.below d7 s3.lt
          try replace s6 := s6.below d7 s6.lt
          try replace s10 := s10.below d7 s10.lt
          try replace s8 := s8.below d7 s8.lt
          try replace sM := sM.below d7 sM.lt
          clear d7
          refine oK hK (by exact rX) fun hHeld => ?_
          clear hK K
          refine r1 10 fun K hK => ?_
          refine sBS [(0, .tmp 131), (1, .const (.int .u8 0))] (n8 [t.hops, 0]) (by rfl) rfl (rb8_2 _ _) rfl ?_
          intro g10 w10 s10 d10
          replace bX := bt bX d10
          replace rX := rX.below d10 rX.lt
          try replace s2 := s2.below d10 s2.lt
          try replace s3 := s3.below d10 s3.lt
          try replace s6 := s6.below d10 s6.lt
          try replace s7 := s7.below d10 s7.lt
          try replace s8 := s8.below d10 s8.lt
          try replace sM := sM.below d10 sM.lt
          clear d10
          refine oK hK (by exact rX) fun hHeld => ?_
          clear hK K
          refine r1 11 fun K hK => ?_
          go_simp
          refine (callsN (put8_n a7 _ c7 _ (some ⟨g10, 0, none⟩) 2 2 [t.hops, 0] _ s7 s10 HO.out (by simp [hw_len]) (by simp))).mono ?_
          rintro e w11 ⟨a8, n8, c8, rfl, o8, d11⟩
          have s8 := own_srcP o8
          clear o8
          replace bX := bt bX d11
          replace rX := rX.below d11 rX.lt
          try replace s2 := s2.below d11 s2.lt
          try replace s3 := s3.below d11 s3.lt
          try replace s6 := s6.below d11 s6.lt
          try replace s7 := s7.below d11 s7.lt
          try replace s10 := s10.below d11 s10.lt
          try replace sM := sM.below d11 sM.lt
          clear d11
          refine oK hK (by exact rX) fun hHeld => ?_
          clear hK K
          refine tA 12 ?_
          refine dN ?_
          refine NoPanic.normal ?_
          have HL8 : Hid (([] ++ List.map UInt8.ofNat [E.toNat, N] ++ List.flatMap hw [t.seq] ++ List.map UInt8.ofNat [t.hops, 0]).length ≤ 1000) := (by show _ ≤ _; simp [hw_len])
          clear hHeld s2 s3 s6 s7 s10
          go_wp2
          replace rX := rX.below (bd _) rX.lt
          replace bX := bt bX (bd _)
          replace s8 := Src.below s8 (bd _) (Src.lt s8)
          replace sM := Src.below sM (bd _) (Src.lt sM)
          refine wp_region_noPanic ?_
          refine wp_region_held_drew (S := fun W => Row W w.heap.size 45 (tcells t)) (by kernel_rfl) (rX) (fun hHeld => ?_)
          refine tA 0 ?_
          refine tA 1 ?_
          refine tA 2 ?_
          refine tA 3 ?_
          refine tA 4 ?_
          refine tL 5 rfl (yQ t.pr (fun W hW => hW.rPr) (by rfl) rfl rfl) ?_
          refine r1 6 fun K hK => ?_
          go_simp
          refine (callsN (HS _)).mono ?_
          rintro e w7 ⟨aZ, nZ, cZ, rfl, o7, d6⟩
          have sZ := own_srcP o7
          clear o7
          replace bX := bt bX d6
          replace rX := rX.below d6 rX.lt
          try replace s9 := s9.below d6 s9.lt
          try replace oF := oF.below d6 oF.lt
          try replace sM := sM.below d6 sM.lt
          try replace s8 := s8.below d6 s8.lt
          clear d6
          refine oK hK (by exact rX) fun hHeld => ?_
          clear hK K
          refine r1 7 fun K hK => ?_
          refine sBS [(0, .tmp 136), (1, .tmp 137), (2, .tmp 140)] (svcells [⟨some ⟨w.heap.size, 9, none⟩, 8, 8, t.id.l⟩, ⟨ma, mn, mc, M⟩, ⟨aZ, nZ, cZ, C⟩]) (by rfl) rfl (rbS_3 ⟨some ⟨w.heap.size, 9, none⟩, 8, 8, t.id.l⟩ ⟨ma, mn, mc, M⟩ ⟨aZ, nZ, cZ, C⟩) rfl ?_
          intro g7 w9 s9 d7
          replace bX := bt bX d7
          replace rX := rX.below d7 rX.lt
          try replace sZ := sZ.below d7 sZ.lt
          try replace oF := oF.below d7 oF.lt
          try replace sM := sM.below d7 sM.lt
          try replace s8 := s8.below d7 s8.lt
          clear d7
          refine oK hK (by exact rX) fun hHeld => ?_
          clear hK K
          refine r1 8 fun K hK => ?_
          go_simp
          refine (callsN (putb_3 a8 _ c8 _ (some ⟨g7, 0, none⟩) ⟨some ⟨w.heap.size, 9, none⟩, 8, 8, t.id.l⟩ ⟨ma, mn, mc, M⟩ ⟨aZ, nZ, cZ, C⟩ _ s8 s9 (rX.idSrc 8) sM sZ HL8.out HI.out HM.out HC.out)).mono ?_
          rintro e wF ⟨aF, nF, cF, rfl, oF, d8⟩
          have sF := bX.size
          replace bX := bt bX d8
          replace rX := rX.below d8 rX.lt
          try replace sZ := sZ.below d8 sZ.lt
          try replace s9 := s9.below d8 s9.lt
          try replace sM := sM.below d8 sM.lt
          try replace s8 := s8.below d8 s8.lt
          clear d8
          refine oK hK (by exact rX) fun hHeld => ?_
          clear hK K
          refine tA 9 ?_
          refine dN ?_
          refine NoPanic.normal ?_
          go_wp2
          go_ret
          exact ⟨aF, nF, cF, rfl, own_cast (by rw [HE.out]; simp) (own_le oF sF), bX⟩
        refine cE fun K hK => ?_
        refine sBS [(0, .tmp 131), (1, .const (.int .u8 0))] (n8 [t.hops, 0]) (by rfl) rfl (rb8_2 _ _) rfl ?_
        intro g10 w10 s10 d10
        replace bX := bt bX d10
        replace rX := rX.below d10 rX.lt
        try replace s2 := s2.below d10 s2.lt
        try replace s3 := s3.below d10 s3.lt
        try replace s6 := s6.below d10 s6.lt
        try replace s7 := s7.below d10 s7.lt
        try replace s8 := s8.below d10 s8.lt
        try replace sM := sM.below d10 sM.lt
        clear d10
        refine oK hK (by exact rX) fun hHeld => ?_
        clear hK K
        refine r1 7 fun K hK => ?_
        go_simp
        refine (callsN (put16_n a3 _ c3 _ (some ⟨g6, 0, none⟩) 1 1 [t.seq] _ s3 s6 HB.out (by simp) (by simp))).mono ?_
        rintro e w7 ⟨a7, n7, c7, rfl, o7, d7⟩
        have s7 := own_srcP o7
        clear o7
        replace bX := bt bX d7
        replace rX := rX.below d7 rX.lt
        try replace s2 := s2.below d7 s2.lt
        try replace s3 := s3.below d7 s3.lt
        try replace s6 := s6.below d7 s6.lt
        try replace s10 := s10.below d7 s10.lt
        try replace s8 := s8.below d7 s8.lt
        try replace sM := sM.below d7 sM.lt
        clear d7
        refine oK hK (by exact rX) fun hHeld => ?_
        clear hK K
        refine r1 11 fun K hK => ?_
        go_simp
        refine (callsN (put8_n a7 _ c7 _ (some ⟨g10, 0, none⟩) 2 2 [t.hops, 0] _ s7 s10 HO.out (by simp [hw_len]) (by simp))).mono ?_
        rintro e w11 ⟨a8, n8, c8, rfl, o8, d11⟩
        have s8 := own_srcP o8
        clear o8
        replace bX := bt bX d11
        replace rX := rX.below d11 rX.lt
        try replace s2 := s2.below d11 s2.lt
        try replace s3 := s3.below d11 s3.lt
        try replace s6 := s6.below d11 s6.lt
        try replace s7 := s7.below d11 s7.lt
        try replace s10 := s10.below d11 s10.lt
        try replace sM := sM.below d11 sM.lt
        clear d11
        refine oK hK (by exact rX) fun hHeld => ?_
        clear hK K
        refine tA 12 ?_
        refine dN ?_
        refine NoPanic.normal ?_
        have HL8 : Hid (([] ++ List.map UInt8.ofNat [E.toNat, N] ++ List.flatMap hw [t.seq] ++ List.map UInt8.ofNat [t.hops, 0]).length ≤ 1000) := (by show _ ≤ _; simp [hw_len])
        clear hHeld s2 s3 s6 s7 s10
        go_wp2
        replace rX := rX.below (bd _) rX.lt
        replace bX := bt bX (bd _)
        replace s8 := Src.below s8 (bd _) (Src.lt s8)
        replace sM := Src.below sM (bd _) (Src.lt sM)
        refine wp_region_noPanic ?_
        refine wp_region_held_drew (S := fun W => Row W w.heap.size 45 (tcells t)) (by kernel_rfl) (rX) (fun hHeld => ?_)
        refine tA 0 ?_
        refine tA 1 ?_
        refine tA 2 ?_
        refine tA 3 ?_
        refine tA 4 ?_
        refine tL 5 rfl (yQ t.pr (fun W hW => hW.rPr) (by rfl) rfl rfl) ?_
        refine r1 6 fun K hK => ?_
        go_simp
        refine (callsN (HS _)).mono ?_
        rintro e w7 ⟨aZ, nZ, cZ, rfl, o7, d6⟩
        have sZ := own_srcP o7
        clear o7
        replace bX := bt bX d6
        replace rX := rX.below d6 rX.lt
        try replace s9 := s9.below d6 s9.lt
        try replace oF := oF.below d6 oF.lt
        try replace sM := sM.below d6 sM.lt
        try replace s8 := s8.below d6 s8.lt
        clear d6
        refine oK hK (by exact rX) fun hHeld => ?_
        clear hK K
        refine r1 7 fun K hK => ?_
        refine sBS [(0, .tmp 136), (1, .tmp 137), (2, .tmp 140)] (svcells [⟨some ⟨w.heap.size, 9, none⟩, 8, 8, t.id.l⟩, ⟨ma, mn, mc, M⟩, ⟨aZ, nZ, cZ, C⟩]) (by rfl) rfl (rbS_3 ⟨some ⟨w.heap.size, 9, none⟩, 8, 8, t.id.l⟩ ⟨ma, mn, mc, M⟩ ⟨aZ, nZ, cZ, C⟩) rfl ?_
        intro g7 w9 s9 d7
        replace bX := bt bX d7
        replace rX := rX.below d7 rX.lt
        try replace sZ := sZ.below d7 sZ.lt
        try replace oF := oF.below d7 oF.lt
        try replace sM := sM.below d7 sM.lt
        try replace s8 := s8.below d7 s8.lt
        clear d7
        refine oK hK (by exact rX) fun hHeld => ?_
        clear hK K
        refine r1 8 fun K hK => ?_
        go_simp
        refine (callsN (putb_3 a8 _ c8 _ (some ⟨g7, 0, none⟩) ⟨some ⟨w.heap.size, 9, none⟩, 8, 8, t.id.l⟩ ⟨ma, mn, mc, M⟩ ⟨aZ, nZ, cZ, C⟩ _ s8 s9 (rX.idSrc 8) sM sZ HL8.out HI.out HM.out HC.out)).mono ?_
        rintro e wF ⟨aF, nF, cF, rfl, oF, d8⟩
        have sF := bX.size
        replace bX := bt bX d8
        replace rX := rX.below d8 rX.lt
        try replace sZ := sZ.below d8 sZ.lt
        try replace s9 := s9.below d8 s9.lt
        try replace sM := sM.below d8 sM.lt
        try replace s8 := s8.below d8 s8.lt
        clear d8
        refine oK hK (by exact rX) fun hHeld => ?_
        clear hK K
        refine tA 9 ?_
        refine dN ?_
        refine NoPanic.normal ?_
        go_wp2
        go_ret
        exact ⟨aF, nF, cF, rfl, own_cast (by rw [HE.out]; simp) (own_le oF sF), bX⟩
      refine cE fun K hK => ?_
      refine sBS [(0, .tmp 131), (1, .const (.int .u8 0))] (n8 [t.hops, 0]) (by rfl) rfl (rb8_2 _ _) rfl ?_
      intro g10 w10 s10 d10
      replace bX := bt bX d10
      replace rX := rX.below d10 rX.lt
      try replace s2 := s2.below d10 s2.lt
      try replace s3 := s3.below d10 s3.lt
      try replace s6 := s6.below d10 s6.lt
      try replace s7 := s7.below d10 s7.lt
      try replace s8 := s8.below d10 s8.lt
      try replace sM := sM.below d10 sM.lt
      clear d10
      refine oK hK (by exact rX) fun hHeld => ?_
      clear hK K
      refine r1 6 fun K hK => ?_
      refine sBS [(0, .tmp 127)] (n16 [t.seq]) (by rfl) rfl (rb16_1 _) rfl ?_
      intro g6 w6 s6 d6
      replace bX := bt bX d6
      replace rX := rX.below d6 rX.lt
      try replace s2 := s2.below d6 s2.lt
      try replace s3 := s3.below d6 s3.lt
      try replace s7 := s7.below d6 s7.lt
      try replace s10 := s10.below d6 s10.lt
      try replace s8 := s8.below d6 s8.lt
      try replace sM := sM.below d6 sM.lt
      clear d6
      refine oK hK (by exact rX) fun hHeld => ?_
      clear hK K
      refine r1 7 fun K hK => ?_
      go_simp
      refine (callsN (put16_n a3 _ c3 _ (some ⟨g6, 0, none⟩) 1 1 [t.seq] _ s3 s6 HB.out (by simp) (by simp))).mono ?_
      rintro e w7 ⟨a7, n7, c7, rfl, o7, d7⟩
      have s7 := own_srcP o7
      clear o7
      replace bX := bt bX d7
      replace rX := rX.below d7 rX.lt
      try replace s2 := s2.below d7 s2.lt
      try replace s3 := s3.below d7 s3.lt
      try replace s6 := s6.below d7 s6.lt
      try replace s10 := s10.below d7 s10.lt
      try replace s8 := s8.below d7 s8.lt
      try replace sM := sM.below d7 sM.lt
      clear d7
      refine oK hK (by exact rX) fun hHeld => ?_
      clear hK K
      refine r1 11 fun K hK => ?_
      go_simp
      refine (callsN (put8_n a7 _ c7 _ (some ⟨g10, 0, none⟩) 2 2 [t.hops, 0] _ s7 s10 HO.out (by simp [hw_len]) (by simp))).mono ?_
      rintro e w11 ⟨a8, n8, c8, rfl, o8, d11⟩
      have s8 := own_srcP o8
      clear o8
      replace bX := bt bX d11
      replace rX := rX.below d11 rX.lt
      try replace s2 := s2.below d11 s2.lt
      try replace s3 := s3.below d11 s3.lt
      try replace s6 := s6.below d11 s6.lt
      try replace s7 := s7.below d11 s7.lt
      try replace s10 := s10.below d11 s10.lt
      try replace sM := sM.below d11 sM.lt
      clear d11
      refine oK hK (by exact rX) fun hHeld => ?_
      clear hK K
      refine tA 12 ?_
      refine dN ?_
      refine NoPanic.normal ?_
      have HL8 : Hid (([] ++ List.map UInt8.ofNat [E.toNat, N] ++ List.flatMap hw [t.seq] ++ List.map UInt8.ofNat [t.hops, 0]).length ≤ 1000) := (by show _ ≤ _; simp [hw_len])
      clear hHeld s2 s3 s6 s7 s10
      go_wp2
      replace rX := rX.below (bd _) rX.lt
      replace bX := bt bX (bd _)
      replace s8 := Src.below s8 (bd _) (Src.lt s8)
      replace sM := Src.below sM (bd _) (Src.lt sM)
      refine wp_region_noPanic ?_
      refine wp_region_held_drew (S := fun W => Row W w.heap.size 45 (tcells t)) (by kernel_rfl) (rX) (fun hHeld => ?_)
      refine tA 0 ?_
      refine tA 1 ?_
      refine tA 2 ?_
      refine tA 3 ?_
      refine tA 4 ?_
      refine tL 5 rfl (yQ t.pr (fun W hW => hW.rPr) (by rfl) rfl rfl) ?_
      refine r1 6 fun K hK => ?_
      go_simp
      refine (callsN (HS _)).mono ?_
      rintro e w7 ⟨aZ, nZ, cZ, rfl, o7, d6⟩
      have sZ := own_srcP o7
      clear o7
      replace bX := bt bX d6
      replace rX := rX.below d6 rX.lt
      try replace s9 := s9.below d6 s9.lt
      try replace oF := oF.below d6 oF.lt
      try replace sM := sM.below d6 sM.lt
      try replace s8 := s8.below d6 s8.lt
      clear d6
      refine oK hK (by exact rX) fun hHeld => ?_
      clear hK K
      refine r1 7 fun K hK => ?_
      refine sBS [(0, .tmp 136), (1, .tmp 137), (2, .tmp 140)] (svcells [⟨some ⟨w.heap.size, 9, none⟩, 8, 8, t.id.l⟩, ⟨ma, mn, mc, M⟩, ⟨aZ, nZ, cZ, C⟩]) (by rfl) rfl (rbS_3 ⟨some ⟨w.heap.size, 9, none⟩, 8, 8, t.id.l⟩ ⟨ma, mn, mc, M⟩ ⟨aZ, nZ, cZ, C⟩) rfl ?_
      intro g7 w9 s9 d7
      replace bX := bt bX d7
      replace rX := rX.below d7 rX.lt
      try replace sZ := sZ.below d7 sZ.lt
      try replace oF := oF.below d7 oF.lt
      try replace sM := sM.below d7 sM.lt
      try replace s8 := s8.below d7 s8.lt
      clear d7
      refine oK hK (by exact rX) fun hHeld => ?_
      clear hK K
      refine r1 8 fun K hK => ?_
      go_simp
      refine (callsN (putb_3 a8 _ c8 _ (some ⟨g7, 0, none⟩) ⟨some ⟨w.heap.size, 9, none⟩, 8, 8, t.id.l⟩ ⟨ma, mn, mc, M⟩ ⟨aZ, nZ, cZ, C⟩ _ s8 s9 (rX.idSrc 8) sM sZ HL8.out HI.out HM.out HC.out)).mono ?_
      rintro e wF ⟨aF, nF, cF, rfl, oF, d8⟩
      have sF := bX.size
      replace bX := bt bX d8
      replace rX := rX.below d8 rX.lt
      try replace sZ := sZ.below d8 sZ.lt
      try replace s9 := s9.below d8 s9.lt
      try replace sM := sM.below d8 sM.lt
      try replace s8 := s8.below d8 s8.lt
      clear d8
      refine oK hK (by exact rX) fun hHeld => ?_
      clear hK K
      refine tA 9 ?_
      refine dN ?_
      refine NoPanic.normal ?_
      go_wp2
      go_ret
      exact ⟨aF, nF, cF, rfl, own_cast (by rw [HE.out]; simp) (own_le oF sF), bX⟩
    refine cL (fun K hK => ?_) ?_
    · skip
      refine sBS [(0, .tmp 127)] (n16 [t.seq]) (by rfl) rfl (rb16_1 _) rfl ?_
      intro g6 w6 s6 d6
      replace bX := bt bX d6
      replace rX := rX.below d6 rX.lt
      try replace s2 := s2.below d6 s2.lt
      try replace s3 := s3.below d6 s3.lt
      try replace s7 := s7.below d6 s7.lt
      try replace s10 := s10.below d6 s10.lt
      try replace s8 := s8.below d6 s8.lt
      try replace sM := sM.below d6 sM.lt
      clear d6
      refine oK hK (by exact rX) fun hHeld => ?_
      clear hK K
      refine rM [3,10] ?_
      refine cL (fun K hK => ?_) ?_
      · skip
        go_simp
        refine (callsN (put8_n none 0 0 [] (some ⟨g2, 0, none⟩) 2 2 [E.toNat, N] _ (Src.nil _) s2 HX.out (by simp) (by simp))).mono ?_
        rintro e w3 ⟨a3, n3, c3, rfl, o3, d3⟩
        have s3 := own_srcP o3
        clear o3
        replace bX := bt bX d3
        replace rX := rX.below d3 rX.lt
        try replace s2 := s2.below d3 s2.lt
        try replace s6 := s6.below d3 s6.lt
        try replace s7 := s7.below d3 s7.lt
        try replace s10 := s10.below d3 s10.lt
        try replace s8 := s8.below d3 s8.lt
        try replace sM := sM.below d3 sM.lt
        clear d3
        refine oK hK (by exact rX) fun hHeld => ?_
        clear hK K
        refine rM [7,10] ?_
        refine cL (fun K hK => ?_) ?_
        · skip
          go_simp
          refine (callsN (put16_n a3 _ c3 _ (some ⟨g6, 0, none⟩) 1 1 [t.seq] _ s3 s6 HB.out (by simp) (by simp))).mono ?_
          rintro e w7 ⟨a7, n7, c7, rfl, o7, d7⟩
          have s7 := own_srcP o7
          clear o7
          replace bX := bt bX d7
          replace rX := rX.below d7 rX.lt
          try replace s2 := s2.below d7 s2.lt
          try replace s3 := s3.below d7 s3.lt
          try replace s6 := s6.below d7 s6.lt
          try replace s10 := s10.below d7 s10.lt
          try replace s8 := s8.below d7 s8.lt
          try replace sM := sM.below d7 sM.lt
          clear d7
          refine oK hK (by exact rX) fun hHeld => ?_
          clear hK K
          refine r1 10 fun K hK => ?_
          refine sBS [(0, .tmp 131), (1, .const (.int .u8 0))] (n8 [t.hops, 0]) (by rfl) rfl (rb8_2 _ _) rfl ?_
          intro g10 w10 s10 d10
          replace bX := bt bX d10
          replace rX := rX.below d10 rX.lt
          try replace s2 := s2.below d10 s2.lt
          try replace s3 := s3.below d10 s3.lt
          try replace s6 := s6.below d10 s6.lt
          try replace s7 := s7.below d10 s7.lt
          try replace s8 := s8.below d10 s8.lt
          try replace sM := sM.below d10 sM.lt
          clear d10
          refine oK hK (by exact rX) fun hHeld => ?_
          clear hK K
          refine r1 11 fun K hK => ?_
          go_simp
          refine (callsN (put8_n a7 _ c7 _ (some ⟨g10, 0, none⟩) 2 2 [t.hops, 0] _ s7 s10 HO.out (by simp [hw_len]) (by simp))).mono ?_
          rintro e w11 ⟨a8, n8, c8, rfl, o8, d11⟩
          have s8 := own_srcP o8
          clear o8
          replace bX := bt bX d11
          replace rX := rX.below d11 rX.lt
          try replace s2 := s2.below d11 s2.lt
          try replace s3 := s3.below d11 s3.lt
          try replace s6 := s6.below d11 s6.lt
          try replace s7 := s7.below d11 s7.lt
          try replace s10 := s10.below d11 s10.lt
          try replace sM := sM.below d11 sM.lt
          clear d11
          refine oK hK (by exact rX) fun hHeld => ?_
          clear hK K
          refine tA 12 ?_
          refine dN ?_
          refine NoPanic.normal ?_
          have HL8 : Hid (([] ++ List.map UInt8.ofNat [E.toNat, N] ++ List.flatMap hw [t.seq] ++ List.map UInt8.ofNat [t.hops, 0]).length ≤ 1000) := (by show _ ≤ _; simp [hw_len])
          clear hHeld s2 s3 s6 s7 s10
          go_wp2
          replace rX := rX.below (bd _) rX.lt
          replace bX := bt bX (bd _)
          replace s8 := Src.below s8 (bd _) (Src.lt s8)
          replace sM := Src.below sM (bd _) (Src.lt sM)
          refine wp_region_noPanic ?_
          refine wp_region_held_drew (S := fun W => Row W w.heap.size 45 (tcells t)) (by kernel_rfl) (rX) (fun hHeld => ?_)
          refine tA 0 ?_
          refine tA 1 ?_
          refine tA 2 ?_
          refine tA 3 ?_
          refine tA 4 ?_
          refine tL 5 rfl (yQ t.pr (fun W hW => hW.rPr) (by rfl) rfl rfl) ?_
          refine r1 6 fun K hK => ?_
          go_simp
          refine (callsN (HS _)).mono ?_
          rintro e w7 ⟨aZ, nZ, cZ, rfl, o7, d6⟩
          have sZ := own_srcP o7
          clear o7
          replace bX := bt bX d6
          replace rX := rX.below d6 rX.lt
          try replace s9 := s9.below d6 s9.lt
          try replace oF := oF.below d6 oF.lt
          try replace sM := sM.below d6 sM.lt
          try replace s8 := s8.below d6 s8.lt
          clear d6
          refine oK hK (by exact rX) fun hHeld => ?_
          clear hK K
          refine r1 7 fun K hK => ?_
          refine sBS [(0, .tmp 136), (1, .tmp 137), (2, .tmp 140)] (svcells [⟨some ⟨w.heap.size, 9, none⟩, 8, 8, t.id.l⟩, ⟨ma, mn, mc, M⟩, ⟨aZ, nZ, cZ, C⟩]) (by rfl) rfl (rbS_3 ⟨some ⟨w.heap.size, 9, none⟩, 8, 8, t.id.l⟩ ⟨ma, mn, mc, M⟩ ⟨aZ, nZ, cZ, C⟩) rfl ?_
          intro g7 w9 s9 d7
          replace bX := bt bX d7
          replace rX := rX.below d7 rX.lt
          try replace sZ := sZ.below d7 sZ.lt
          try replace oF := oF.below d7 oF.lt
          try replace sM := sM.below d7 sM.lt
          try replace s8 := s8.below d7 s8.lt
          clear d7
          refine oK hK (by exact rX) fun hHeld => ?_
          clear hK K
          refine r1 8 fun K hK => ?_
          go_simp
          refine (callsN (putb_3 a8 _ c8 _ (some ⟨g7, 0, none⟩) ⟨some ⟨w.heap.size, 9, none⟩, 8, 8, t.id.l⟩ ⟨ma, mn, mc, M⟩ ⟨aZ, nZ, cZ, C⟩ _ s8 s9 (rX.idSrc 8) sM sZ HL8.out HI.out HM.out HC.out)).mono ?_
          rintro e wF ⟨aF, nF, cF, rfl, oF, d8⟩
          have sF := bX.size
          replace bX := bt bX d8
          replace rX := rX.below d8 rX.lt
          try replace sZ := sZ.below d8 sZ.lt
          try replace s9 := s9.below d8 s9.lt
          try replace sM := sM.below d8 sM.lt
          try replace s8 := s8.below d8 s8.lt
          clear d8
          refine oK hK (by exact rX) fun hHeld => ?_
          clear hK K
          refine tA 9 ?_
          refine dN ?_
          refine NoPanic.normal ?_
          go_wp2
          go_ret
          exact ⟨aF, nF, cF, rfl, own_cast (by rw [HE.out]; simp) (own_le oF sF), bX⟩
        refine cE fun K hK => ?_
        refine sBS [(0, .tmp 131), (1, .const (.int .u8 0))] (n8 [t.hops, 0]) (by rfl) rfl (rb8_2 _ _) rfl ?_
        intro g10 w10 s10 d10
        replace bX := bt bX d10
        replace rX := rX.below d10 rX.lt
        try replace s2 := s2.below d10 s2.lt
        try replace s3 := s3.below d10 s3.lt
        try replace s6 := s6.below d10 s6.lt
        try replace s7 := s7.below d10 s7.lt
        try replace s8 := s8.below d10 s8.lt
        try replace sM := sM.below d10 sM.lt
        clear d10
        refine oK hK (by exact rX) fun hHeld => ?_
        clear hK K
        refine r1 7 fun K hK => ?_
        go_simp
        refine (callsN (put16_n a3 _ c3 _ (some ⟨g6, 0, none⟩) 1 1 [t.seq] _ s3 s6 HB.out (by simp) (by simp))).mono ?_
        rintro e w7 ⟨a7, n7, c7, rfl, o7, d7⟩
        have s7 := own_srcP o7
        clear o7
        replace bX := bt bX d7
        replace rX := rX.below d7 rX.lt
        try replace s2 := s2.below d7 s2.lt
        try replace s3 := s3.below d7 s3.lt
        try replace s6 := s6.below d7 s6.lt
        try replace s10 := s10.below d7 s10.lt
        try replace s8 := s8.below d7 s8.lt
        try replace sM := sM.below d7 sM.lt
        clear d7
        refine oK hK (by exact rX) fun hHeld => ?_
        clear hK K
        refine r1 11 fun K hK => ?_
        go_simp
        refine (callsN (put8_n a7 _ c7 _ (some ⟨g10, 0, none⟩) 2 2 [t.hops, 0] _ s7 s10 HO.out (by simp [hw_len]) (by simp))).mono ?_
        rintro e w11 ⟨a8, n8, c8, rfl, o8, d11⟩
        have s8 := own_srcP o8
        clear o8
        replace bX := bt bX d11
        replace rX := rX.below d11 rX.lt
        try replace s2 := s2.below d11 s2.lt
        try replace s3 := s3.below d11 s3.lt
        try replace s6 := s6.below d11 s6.lt
        try replace s7 := s7.below d11 s7.lt
        try replace s10 := s10.below d11 s10.lt
        try replace sM := sM.below d11 sM.lt
        clear d11
        refine oK hK (by exact rX) fun hHeld => ?_
        clear hK K
        refine tA 12 ?_
        refine dN ?_
        refine NoPanic.normal ?_
        have HL8 : Hid (([] ++ List.map UInt8.ofNat [E.toNat, N] ++ List.flatMap hw [t.seq] ++ List.map UInt8.ofNat [t.hops, 0]).length ≤ 1000) := (by show _ ≤ _; simp [hw_len])
        clear hHeld s2 s3 s6 s7 s10
        go_wp2
        replace rX := rX.below (bd _) rX.lt
        replace bX := bt bX (bd _)
        replace s8 := Src.below s8 (bd _) (Src.lt s8)
        replace sM := Src.below sM (bd _) (Src.lt sM)
        refine wp_region_noPanic ?_
        refine wp_region_held_drew (S := fun W => Row W w.heap.size 45 (tcells t)) (by kernel_rfl) (rX) (fun hHeld => ?_)
        refine tA 0 ?_
        refine tA 1 ?_
        refine tA 2 ?_
        refine tA 3 ?_
        refine tA 4 ?_
        refine tL 5 rfl (yQ t.pr (fun W hW => hW.rPr) (by rfl) rfl rfl) ?_
        refine r1 6 fun K hK => ?_
        go_simp
        refine (callsN (HS _)).mono ?_
        rintro e w7 ⟨aZ, nZ, cZ, rfl, o7, d6⟩
        have sZ := own_srcP o7
        clear o7
        replace bX := bt bX d6
        replace rX := rX.below d6 rX.lt
        try replace s9 := s9.below d6 s9.lt
        try replace oF := oF.below d6 oF.lt
        try replace sM := sM.below d6 sM.lt
        try replace s8 := s8.below d6 s8.lt
        clear d6
        refine oK hK (by exact rX) fun hHeld => ?_
        clear hK K
        refine r1 7 fun K hK => ?_
        refine sBS [(0, .tmp 136), (1, .tmp 137), (2, .tmp 140)] (svcells [⟨some ⟨w.heap.size, 9, none⟩, 8, 8, t.id.l⟩, ⟨ma, mn, mc, M⟩, ⟨aZ, nZ, cZ, C⟩]) (by rfl) rfl (rbS_3 ⟨some ⟨w.heap.size, 9, none⟩, 8, 8, t.id.l⟩ ⟨ma, mn, mc, M⟩ ⟨aZ, nZ, cZ, C⟩) rfl ?_
        intro g7 w9 s9 d7
        replace bX := bt bX d7
        replace rX := rX.below d7 rX.lt
        try replace sZ := sZ.below d7 sZ.lt
        try replace oF := oF.below d7 oF.lt
        try replace sM := sM.below d7 sM.lt
        try replace s8 := s8.below d7 s8.lt
        clear d7
        refine oK hK (by exact rX) fun hHeld => ?_
        clear hK K
        refine r1 8 fun K hK => ?_
        go_simp
        refine (callsN (putb_3 a8 _ c8 _ (some ⟨g7, 0, none⟩) ⟨some ⟨w.heap.size, 9, none⟩, 8, 8, t.id.l⟩ ⟨ma, mn, mc, M⟩ ⟨aZ, nZ, cZ, C⟩ _ s8 s9 (rX.idSrc 8) sM sZ HL8.out HI.out HM.out HC.out)).mono ?_
        rintro e wF ⟨aF, nF, cF, rfl, oF, d8⟩
        have sF := bX.size
        replace bX := bt bX d8
        replace rX := rX.below d8 rX.lt
        try replace sZ := sZ.below d8 sZ.lt
        try replace s9 := s9.below d8 s9.lt
        try replace sM := sM.below d8 sM.lt
        try replace s8 := s8.below d8 s8.lt
        clear d8
        refine oK hK (by exact rX) fun hHeld => ?_
        clear hK K
        refine tA 9 ?_
        refine dN ?_
        refine NoPanic.normal ?_
        go_wp2
        go_ret
        exact ⟨aF, nF, cF, rfl, own_cast (by rw [HE.out]; simp) (own_le oF sF), bX⟩
      refine cE fun K hK => ?_
      refine sBS [(0, .tmp 131), (1, .const (.int .u8 0))] (n8 [t.hops, 0]) (by rfl) rfl (rb8_2 _ _) rfl ?_
      intro g10 w10 s10 d10
      replace bX := bt bX d10
      replace rX := rX.below d10 rX.lt
      try replace s2 := s2.below d10 s2.lt
      try replace s3 := s3.below d10 s3.lt
      try replace s6 := s6.below d10 s6.lt
      try replace s7 := s7.below d10 s7.lt
      try replace s8 := s8.below d10 s8.lt
      try replace sM := sM.below d10 sM.lt
      clear d10
      refine oK hK (by exact rX) fun hHeld => ?_
      clear hK K
      refine r1 3 fun K hK => ?_
      go_simp
      refine (callsN (put8_n none 0 0 [] (some ⟨g2, 0, none⟩) 2 2 [E.toNat, N] _ (Src.nil _) s2 HX.out (by simp) (by simp))).mono ?_
      rintro e w3 ⟨a3, n3, c3, rfl, o3, d3⟩
      have s3 := own_srcP o3
      clear o3
      replace bX := bt bX d3
      replace rX := rX.below d3 rX.lt
      try replace s2 := s2.below d3 s2.lt
      try replace s6 := s6.below d3 s6.lt
      try replace s7 := s7.below d3 s7.lt
      try replace s10 := s10.below d3 s10.lt
      try replace s8 := s8.below d3 s8.lt
      try replace sM := sM.below d3 sM.lt
      clear d3
      refine oK hK (by exact rX) fun hHeld => ?_
      clear hK K
      refine r1 7 fun K hK => ?_
      go_simp
      refine (callsN (put16_n a3 _ c3 _ (some ⟨g6, 0, none⟩) 1 1 [t.seq] _ s3 s6 HB.out (by simp) (by simp))).mono ?_
      rintro e w7 ⟨a7, n7, c7, rfl, o7, d7⟩
      have s7 := own_srcP o7
      clear o7
      replace bX := bt bX d7
      replace rX := rX.below d7 rX.lt
      try replace s2 := s2.below d7 s2.lt
      try replace s3 := s3.below d7 s3.lt
      try replace s6 := s6.below d7 s6.lt
      try replace s10 := s10.below d7 s10.lt
      try replace s8 := s8.below d7 s8.lt
      try replace sM := sM.below d7 sM.lt
      clear d7
      refine oK hK (by exact rX) fun hHeld => ?_
      clear hK K
      refine r1 11 fun K hK => ?_
      go_simp
      refine (callsN (put8_n a7 _ c7 _ (some ⟨g10, 0, none⟩) 2 2 [t.hops, 0] _ s7 s10 HO.out (by simp [hw_len]) (by simp))).mono ?_
      rintro e w11 ⟨a8, n8, c8, rfl, o8, d11⟩
      have s8 := own_srcP o8
      clear o8
      replace bX := bt bX d11
      replace rX := rX.below d11 rX.lt
      try replace s2 := s2.below d11 s2.lt
      try replace s3 := s3.below d11 s3.lt
      try replace s6 := s6.below d11 s6.lt
      try replace s7 := s7.below d11 s7.lt
      try replace s10 := s10.below d11 s10.lt
      try replace sM := sM.below d11 sM.lt
      clear d11
      refine oK hK (by exact rX) fun hHeld => ?_
      clear hK K
      refine tA 12 ?_
      refine dN ?_
      refine NoPanic.normal ?_
      have HL8 : Hid (([] ++ List.map UInt8.ofNat [E.toNat, N] ++ List.flatMap hw [t.seq] ++ List.map UInt8.ofNat [t.hops, 0]).length ≤ 1000) := (by show _ ≤ _; simp [hw_len])
      clear hHeld s2 s3 s6 s7 s10
      go_wp2
      replace rX := rX.below (bd _) rX.lt
      replace bX := bt bX (bd _)
      replace s8 := Src.below s8 (bd _) (Src.lt s8)
      replace sM := Src.below sM (bd _) (Src.lt sM)
      refine wp_region_noPanic ?_
      refine wp_region_held_drew (S := fun W => Row W w.heap.size 45 (tcells t)) (by kernel_rfl) (rX) (fun hHeld => ?_)
      refine tA 0 ?_
      refine tA 1 ?_
      refine tA 2 ?_
      refine tA 3 ?_
      refine tA 4 ?_
      refine tL 5 rfl (yQ t.pr (fun W hW => hW.rPr) (by rfl) rfl rfl) ?_
      refine r1 6 fun K hK => ?_
      go_simp
      refine (callsN (HS _)).mono ?_
      rintro e w7 ⟨aZ, nZ, cZ, rfl, o7, d6⟩
      have sZ := own_srcP o7
      clear o7
      replace bX := bt bX d6
      replace rX := rX.below d6 rX.lt
      try replace s9 := s9.below d6 s9.lt
      try replace oF := oF.below d6 oF.lt
      try replace sM := sM.below d6 sM.lt
      try replace s8 := s8.below d6 s8.lt
      clear d6
      refine oK hK (by exact rX) fun hHeld => ?_
      clear hK K
      refine r1 7 fun K hK => ?_
      refine sBS [(0, .tmp 136), (1, .tmp 137), (2, .tmp 140)] (svcells [⟨some ⟨w.heap.size, 9, none⟩, 8, 8, t.id.l⟩, ⟨ma, mn, mc, M⟩, ⟨aZ, nZ, cZ, C⟩]) (by rfl) rfl (rbS_3 ⟨some ⟨w.heap.size, 9, none⟩, 8, 8, t.id.l⟩ ⟨ma, mn, mc, M⟩ ⟨aZ, nZ, cZ, C⟩) rfl ?_
      intro g7 w9 s9 d7
      replace bX := bt bX d7
      replace rX := rX.below d7 rX.lt
      try replace sZ := sZ.below d7 sZ.lt
      try replace oF := oF.below d7 oF.lt
      try replace sM := sM.below d7 sM.lt
      try replace s8 := s8.below d7 s8.lt
      clear d7
      refine oK hK (by exact rX) fun hHeld => ?_
      clear hK K
      refine r1 8 fun K hK => ?_
      go_simp
      refine (callsN (putb_3 a8 _ c8 _ (some ⟨g7, 0, none⟩) ⟨some ⟨w.heap.size, 9, none⟩, 8, 8, t.id.l⟩ ⟨ma, mn, mc, M⟩ ⟨aZ, nZ, cZ, C⟩ _ s8 s9 (rX.idSrc 8) sM sZ HL8.out HI.out HM.out HC.out)).mono ?_
      rintro e wF ⟨aF, nF, cF, rfl, oF, d8⟩
      have sF := bX.size
      replace bX := bt bX d8
      replace rX := rX.below d8 rX.lt
      try replace sZ := sZ.below d8 sZ.lt
      try replace s9 := s9.below d8 s9.lt
      try replace sM := sM.below d8 sM.lt
      try replace s8 := s8.below d8 s8.lt
      clear d8
      refine oK hK (by exact rX) fun hHeld => ?_
      clear hK K
      refine tA 9 ?_
      refine dN ?_
      refine NoPanic.normal ?_
      go_wp2
      go_ret
      exact ⟨aF, nF, cF, rfl, own_cast (by rw [HE.out]; simp) (own_le oF sF), bX⟩
    refine cE fun K hK => ?_
    refine sBS [(0, .tmp 131), (1, .const (.int .u8 0))] (n8 [t.hops, 0]) (by rfl) rfl (rb8_2 _ _) rfl ?_
    intro g10 w10 s10 d10
    replace bX := bt bX d10
    replace rX := rX.below d10 rX.lt
    try replace s2 := s2.below d10 s2.lt
    try replace s3 := s3.below d10 s3.lt
    try replace s6 := s6.below d10 s6.lt
    try replace s7 := s7.below d10 s7.lt
    try replace s8 := s8.below d10 s8.lt
    try replace sM := sM.below d10 sM.lt
    clear d10
    refine oK hK (by exact rX) fun hHeld => ?_
    clear hK K
    refine rM [3,6] ?_
    refine cL (fun K hK => ?_) ?_
    · skip
      go_simp
      refine (callsN (put8_n none 0 0 [] (some ⟨g2, 0, none⟩) 2 2 [E.toNat, N] _ (Src.nil _) s2 HX.out (by simp) (by simp))).mono ?_
      rintro e w3 ⟨a3, n3, c3, rfl, o3, d3⟩
      have s3 := own_srcP o3
      clear o3
      replace bX := bt bX d3
      replace rX := rX.below d3 rX.lt
      try replace s2 := s2.below d3 s2.lt
      try replace s6 := s6.below d3 s6.lt
      try replace s7 := s7.below d3 s7.lt
      try replace s10 := s10.below d3 s10.lt
      try replace s8 := s8.below d3 s8.lt
      try replace sM := sM.below d3 sM.lt
      clear d3
      refine oK hK (by exact rX) fun hHeld => ?_
      clear hK K
      refine r1 6 fun K hK => ?_
      refine sBS [(0, .tmp 127)] (n16 [t.seq]) (by rfl) rfl (rb16_1 _) rfl ?_
      intro g6 w6 s6 d6
      replace bX := bt bX d6
      replace rX := rX.below d6 rX.lt
      try replace s2 := s2.below d6 s2.lt
      try replace s3 := s3.below d6 s3.lt
      try replace s7 := s7.below d6 s7.lt
      try replace s10 := s10.below d6 s10.lt
      try replace s8 := s8.below d6 s8.lt
      try replace sM := sM.below d6 sM.lt
      clear d6
      refine oK hK (by exact rX) fun hHeld => ?_
      clear hK K
      refine r1 7 fun K hK => ?_
      go_simp
      refine (callsN (put16_n a3 _ c3 _ (some ⟨g6, 0, none⟩) 1 1 [t.seq] _ s3 s6 HB.out (by simp) (by simp))).mono ?_
      rintro e w7 ⟨a7, n7, c7, rfl, o7, d7⟩
      have s7 := own_srcP o7
      clear o7
      replace bX := bt bX d7
      replace rX := rX.below d7 rX.lt
      try replace s2 := s2.below d7 s2.lt
      try replace s3 := s3.below d7 s3.lt
      try replace s6 := s6.below d7 s6.lt
      try replace s10 := s10.below d7 s10.lt
      try replace s8 := s8.below d7 s8.lt
      try replace sM := sM.below d7 sM.lt
      clear d7
      refine oK hK (by exact rX) fun hHeld => ?_
      clear hK K
      refine r1 11 fun K hK => ?_
      go_simp
      refine (callsN (put8_n a7 _ c7 _ (some ⟨g10, 0, none⟩) 2 2 [t.hops, 0] _ s7 s10 HO.out (by simp [hw_len]) (by simp))).mono ?_
      rintro e w11 ⟨a8, n8, c8, rfl, o8, d11⟩
      have s8 := own_srcP o8
      clear o8
      replace bX := bt bX d11
      replace rX := rX.below d11 rX.lt
      try replace s2 := s2.below d11 s2.lt
      try replace s3 := s3.below d11 s3.lt
      try replace s6 := s6.below d11 s6.lt
      try replace s7 := s7.below d11 s7.lt
      try replace s10 := s10.below d11 s10.lt
      try replace sM := sM.below d11 sM.lt
      clear d11
      refine oK hK (by exact rX) fun hHeld => ?_
      clear hK K
      refine tA 12 ?_
      refine dN ?_
      refine NoPanic.normal ?_
      have HL8 : Hid (([] ++ List.map UInt8.ofNat [E.toNat, N] ++ List.flatMap hw [t.seq] ++ List.map UInt8.ofNat [t.hops, 0]).length ≤ 1000) := (by show _ ≤ _; simp [hw_len])
      clear hHeld s2 s3 s6 s7 s10
      go_wp2
      replace rX := rX.below (bd _) rX.lt
      replace bX := bt bX (bd _)
      replace s8 := Src.below s8 (bd _) (Src.lt s8)
      replace sM := Src.below sM (bd _) (Src.lt sM)
      refine wp_region_noPanic ?_
      refine wp_region_held_drew (S := fun W => Row W w.heap.size 45 (tcells t)) (by kernel_rfl) (rX) (fun hHeld => ?_)
      refine tA 0 ?_
      refine tA 1 ?_
      refine tA 2 ?_
      refine tA 3 ?_
      refine tA 4 ?_
      refine tL 5 rfl (yQ t.pr (fun W hW => hW.rPr) (by rfl) rfl rfl) ?_
      refine r1 6 fun K hK => ?_
      go_simp
      refine (callsN (HS _)).mono ?_
      rintro e w7 ⟨aZ, nZ, cZ, rfl, o7, d6⟩
      have sZ := own_srcP o7
      clear o7
      replace bX := bt bX d6
      replace rX := rX.below d6 rX.lt
      try replace s9 := s9.below d6 s9.lt
      try replace oF := oF.below d6 oF.lt
      try replace sM := sM.below d6 sM.lt
      try replace s8 := s8.below d6 s8.lt
      clear d6
      refine oK hK (by exact rX) fun hHeld => ?_
      clear hK K
      refine r1 7 fun K hK => ?_
      refine sBS [(0, .tmp 136), (1, .tmp 137), (2, .tmp 140)] (svcells [⟨some ⟨w.heap.size, 9, none⟩, 8, 8, t.id.l⟩, ⟨ma, mn, mc, M⟩, ⟨aZ, nZ, cZ, C⟩]) (by rfl) rfl (rbS_3 ⟨some ⟨w.heap.size, 9, none⟩, 8, 8, t.id.l⟩ ⟨ma, mn, mc, M⟩ ⟨aZ, nZ, cZ, C⟩) rfl ?_
      intro g7 w9 s9 d7
      replace bX := bt bX d7
      replace rX := rX.below d7 rX.lt
      try replace sZ := sZ.below d7 sZ.lt
      try replace oF := oF.below d7 oF.lt
      try replace sM := sM.below d7 sM.lt
      try replace s8 := s8.below d7 s8.lt
      clear d7
      refine oK hK (by exact rX) fun hHeld => ?_
      clear hK K
      refine r1 8 fun K hK => ?_
      go_simp
      refine (callsN (putb_3 a8 _ c8 _ (some ⟨g7, 0, none⟩) ⟨some ⟨w.heap.size, 9, none⟩, 8, 8, t.id.l⟩ ⟨ma, mn, mc, M⟩ ⟨aZ, nZ, cZ, C⟩ _ s8 s9 (rX.idSrc 8) sM sZ HL8.out HI.out HM.out HC.out)).mono ?_
      rintro e wF ⟨aF, nF, cF, rfl, oF, d8⟩
      have sF := bX.size
      replace bX := bt bX d8
      replace rX := rX.below d8 rX.lt
      try replace sZ := sZ.below d8 sZ.lt
      try replace s9 := s9.below d8 s9.lt
      try replace sM := sM.below d8 sM.lt
      try replace s8 := s8.below d8 s8.lt
      clear d8
      refine oK hK (by exact rX) fun hHeld => ?_
      clear hK K
      refine tA 9 ?_
      refine dN ?_
      refine NoPanic.normal ?_
      go_wp2
      go_ret
      exact ⟨aF, nF, cF, rfl, own_cast (by rw [HE.out]; simp) (own_le oF sF), bX⟩
    refine cE fun K hK => ?_
    refine sBS [(0, .tmp 127)] (n16 [t.seq]) (by rfl) rfl (rb16_1 _) rfl ?_
    intro g6 w6 s6 d6
    replace bX := bt bX d6
    replace rX := rX.below d6 rX.lt
    try replace s2 := s2.below d6 s2.lt
    try replace s3 := s3.below d6 s3.lt
    try replace s7 := s7.below d6 s7.lt
    try replace s10 := s10.below d6 s10.lt
    try replace s8 := s8.below d6 s8.lt
    try replace sM := sM.below d6 sM.lt
    clear d6
    refine oK hK (by exact rX) fun hHeld => ?_
    clear hK K
    refine r1 3 fun K hK => ?_
    go_simp
    refine (callsN (put8_n none 0 0 [] (some ⟨g2, 0, none⟩) 2 2 [E.toNat, N] _ (Src.nil _) s2 HX.out (by simp) (by simp))).mono ?_
    rintro e w3 ⟨a3, n3, c3, rfl, o3, d3⟩
    have s3 := own_srcP o3
    clear o3
    replace bX := bt bX d3
    replace rX := rX.below d3 rX.lt
    try replace s2 := s2.below d3 s2.lt
    try replace s6 := s6.below d3 s6.lt
    try replace s7 := s7.below d3 s7.lt
    try replace s10 := s10.below d3 s10.lt
    try replace s8 := s8.below d3 s8.lt
    try replace sM := sM.below d3 sM.lt
    clear d3
    refine oK hK (by exact rX) fun hHeld => ?_
    clear hK K
    refine r1 7 fun K hK => ?_
    go_simp
    refine (callsN (put16_n a3 _ c3 _ (some ⟨g6, 0, none⟩) 1 1 [t.seq] _ s3 s6 HB.out (by simp) (by simp))).mono ?_
    rintro e w7 ⟨a7, n7, c7, rfl, o7, d7⟩
    have s7 := own_srcP o7
    clear o7
    replace bX := bt bX d7
    replace rX := rX.below d7 rX.lt
    try replace s2 := s2.below d7 s2.lt
    try replace s3 := s3.below d7 s3.lt
    try replace s6 := s6.below d7 s6.lt
    try replace s10 := s10.below d7 s10.lt
    try replace s8 := s8.below d7 s8.lt
    try replace sM := sM.below d7 sM.lt
    clear d7
    refine oK hK (by exact rX) fun hHeld => ?_
    clear hK K
    refine r1 11 fun K hK => ?_
    go_simp
    refine (callsN (put8_n a7 _ c7 _ (some ⟨g10, 0, none⟩) 2 2 [t.hops, 0] _ s7 s10 HO.out (by simp [hw_len]) (by simp))).mono ?_
    rintro e w11 ⟨a8, n8, c8, rfl, o8, d11⟩
    have s8 := own_srcP o8
    clear o8
    replace bX := bt bX d11
    replace rX := rX.below d11 rX.lt
    try replace s2 := s2.below d11 s2.lt
    try replace s3 := s3.below d11 s3.lt
    try replace s6 := s6.below d11 s6.lt
    try replace s7 := s7.below d11 s7.lt
    try replace s10 := s10.below d11 s10.lt
    try replace sM := sM.below d11 sM.lt
    clear d11
    refine oK hK (by exact rX) fun hHeld => ?_
    clear hK K
    refine tA 12 ?_
    refine dN ?_
    refine NoPanic.normal ?_
    have HL8 : Hid (([] ++ List.map UInt8.ofNat [E.toNat, N] ++ List.flatMap hw [t.seq] ++ List.map UInt8.ofNat [t.hops, 0]).length ≤ 1000) := (by show _ ≤ _; simp [hw_len])
    clear hHeld s2 s3 s6 s7 s10
    go_wp2
    replace rX := rX.below (bd _) rX.lt
    replace bX := bt bX (bd _)
    replace s8 := Src.below s8 (bd _) (Src.lt s8)
    replace sM := Src.below sM (bd _) (Src.lt sM)
    refine wp_region_noPanic ?_
    refine wp_region_held_drew (S := fun W => Row W w.heap.size 45 (tcells t)) (by kernel_rfl) (rX) (fun hHeld => ?_)
    refine tA 0 ?_
    refine tA 1 ?_
    refine tA 2 ?_
    refine tA 3 ?_
    refine tA 4 ?_
    refine tL 5 rfl (yQ t.pr (fun W hW => hW.rPr) (by rfl) rfl rfl) ?_
    refine r1 6 fun K hK => ?_
    go_simp
    refine (callsN (HS _)).mono ?_
    rintro e w7 ⟨aZ, nZ, cZ, rfl, o7, d6⟩
    have sZ := own_srcP o7
    clear o7
    replace bX := bt bX d6
    replace rX := rX.below d6 rX.lt
    try replace s9 := s9.below d6 s9.lt
    try replace oF := oF.below d6 oF.lt
    try replace sM := sM.below d6 sM.lt
    try replace s8 := s8.below d6 s8.lt
    clear d6
    refine oK hK (by exact rX) fun hHeld => ?_
    clear hK K
    refine r1 7 fun K hK => ?_
    refine sBS [(0, .tmp 136), (1, .tmp 137), (2, .tmp 140)] (svcells [⟨some ⟨w.heap.size, 9, none⟩, 8, 8, t.id.l⟩, ⟨ma, mn, mc, M⟩, ⟨aZ, nZ, cZ, C⟩]) (by rfl) rfl (rbS_3 ⟨some ⟨w.heap.size, 9, none⟩, 8, 8, t.id.l⟩ ⟨ma, mn, mc, M⟩ ⟨aZ, nZ, cZ, C⟩) rfl ?_
    intro g7 w9 s9 d7
    replace bX := bt bX d7
    replace rX := rX.below d7 rX.lt
    try replace sZ := sZ.below d7 sZ.lt
    try replace oF := oF.below d7 oF.lt
    try replace sM := sM.below d7 sM.lt
    try replace s8 := s8.below d7 s8.lt
    clear d7
    refine oK hK (by exact rX) fun hHeld => ?_
    clear hK K
    refine r1 8 fun K hK => ?_
    go_simp
    refine (callsN (putb_3 a8 _ c8 _ (some ⟨g7, 0, none⟩) ⟨some ⟨w.heap.size, 9, none⟩, 8, 8, t.id.l⟩ ⟨ma, mn, mc, M⟩ ⟨aZ, nZ, cZ, C⟩ _ s8 s9 (rX.idSrc 8) sM sZ HL8.out HI.out HM.out HC.out)).mono ?_
    rintro e wF ⟨aF, nF, cF, rfl, oF, d8⟩
    have sF := bX.size
    replace bX := bt bX d8
    replace rX := rX.below d8 rX.lt
    try replace sZ := sZ.below d8 sZ.lt
    try replace s9 := s9.below d8 s9.lt
    try replace sM := sM.below d8 sM.lt
    try replace s8 := s8.below d8 s8.lt
    clear d8
    refine oK hK (by exact rX) fun hHeld => ?_
    clear hK K
    refine tA 9 ?_
    refine dN ?_
    refine NoPanic.normal ?_
    go_wp2
    go_ret
    exact ⟨aF, nF, cF, rfl, own_cast (by rw [HE.out]; simp) (own_le oF sF), bX⟩
  refine cL (fun K hK => ?_) ?_
  · skip
    refine sBS [(0, .tmp 127)] (n16 [t.seq]) (by rfl) rfl (rb16_1 _) rfl ?_
    intro g6 w6 s6 d6
    replace bX := bt bX d6
    replace rX := rX.below d6 rX.lt
    try replace s2 := s2.below d6 s2.lt
    try replace s3 := s3.below d6 s3.lt
    try replace s7 := s7.below d6 s7.lt
    try replace s10 := s10.below d6 s10.lt
    try replace s8 := s8.below d6 s8.lt
    try replace sM := sM.below d6 sM.lt
    clear d6
    refine oK hK (by exact rX) fun hHeld => ?_
    clear hK K
    refine rM [2,10] ?_
    refine cL (fun K hK => ?_) ?_
    · skip
      refine sBS [(0, .tmp 122), (1, .tmp 123)] (n8 [E.toNat, N]) (by rfl) rfl (rb8_2 _ _) rfl ?_
      intro g2 w2 s2 d2
      replace bX := bt bX d2
      replace rX := rX.below d2 rX.lt
      try replace s3 := s3.below d2 s3.lt
      try replace s6 := s6.below d2 s6.lt
      try replace s7 := s7.below d2 s7.lt
      try replace s10 := s10.below d2 s10.lt
      try replace s8 := s8.below d2 s8.lt
      try replace sM := sM.below d2 sM.lt
      clear d2
      refine oK hK (by exact rX) fun hHeld => ?_
      clear hK K
      refine rM [3,10] ?_
      refine cL (fun K hK => ?_) ?_
      · skip
        go_simp
        refine (callsN (put8_n none 0 0 [] (some ⟨g2, 0, none⟩) 2 2 [E.toNat, N] _ (Src.nil _) s2 HX.out (by simp) (by simp))).mono ?_
        rintro e w3 ⟨a3, n3, c3, rfl, o3, d3⟩
        have s3 := own_srcP o3
        clear o3
        replace bX := bt bX d3
        replace rX := rX.below d3 rX.lt
        try replace s2 := s2.below d3 s2.lt
        try replace s6 := s6.below d3 s6.lt
        try replace s7 := s7.below d3 s7.lt
        try replace s10 := s10.below d3 s10.lt
        try replace s8 := s8.below d3 s8.lt
        try replace sM := sM.below d3 sM.lt
        clear d3
        refine oK hK (by exact rX) fun hHeld => ?_
        clear hK K
        refine rM [7,10] ?_
        refine cL (fun K hK => ?_) ?_
        · skip
          go_simp
          refine (callsN (put16_n a3 _ c3 _ (some ⟨g6, 0, none⟩) 1 1 [t.seq] _ s3 s6 HB.out (by simp) (by simp))).mono ?_
          rintro e w7 ⟨a7, n7, c7, rfl, o7, d7⟩
          have s7 := own_srcP o7
          clear o7
          replace bX := bt bX d7
          replace rX := rX.below d7 rX.lt
          try replace s2 := s2.below d7 s2.lt
          try replace s3 := s3.below d7 s3.lt
          try replace s6 := s6.below d7 s6.lt
          try replace s10 := s10.below d7 s10.lt
          try replace s8 := s8.below d7 s8.lt
          try replace sM := sM.below d7 sM.lt
          clear d7
          refine oK hK (by exact rX) fun hHeld => ?_
          clear hK K
          refine r1 10 fun K hK => ?_
          refine sBS [(0, .tmp 131), (1, .const (.int .u8 0))] (n8 [t.hops, 0]) (by rfl) rfl (rb8_2 _ _) rfl ?_
          intro g10 w10 s10 d10
          replace bX := bt bX d10
          replace rX := rX.below d10 rX.lt
          try replace s2 := s2.below d10 s2.lt
          try replace s3 := s3.below d10 s3.lt
          try replace s6 := s6.below d10 s6.lt
          try replace s7 := s7.below d10 s7.lt
          try replace s8 := s8.below d10 s8.lt
          try replace sM := sM.below d10 sM.lt
          clear d10
          refine oK hK (by exact rX) fun hHeld => ?_
          clear hK K
          refine r1 11 fun K hK => ?_
          go_simp
          refine (callsN (put8_n a7 _ c7 _ (some ⟨g10, 0, none⟩) 2 2 [t.hops, 0] _ s7 s10 HO.out (by simp [hw_len]) (by simp))).mono ?_
          rintro e w11 ⟨a8, n8, c8, rfl, o8, d11⟩
          have s8 := own_srcP o8
          clear o8
          replace bX := bt bX d11
          replace rX := rX.below d11 rX.lt
          try replace s2 := s2.below d11 s2.lt
          try replace s3 := s3.below d11 s3.lt
          try replace s6 := s6.below d11 s6.lt
          try replace s7 := s7.below d11 s7.lt
          try replace s10 := s10.below d11 s10.lt
          try replace sM := sM.below d11 sM.lt
          clear d11
          refine oK hK (by exact rX) fun hHeld => ?_
          clear hK K
          refine tA 12 ?_
          refine dN ?_
          refine NoPanic.normal ?_
          have HL8 : Hid (([] ++ List.map UInt8.ofNat [E.toNat, N] ++ List.flatMap hw [t.seq] ++ List.map UInt8.ofNat [t.hops, 0]).length ≤ 1000) := (by show _ ≤ _; simp [hw_len])
          clear hHeld s2 s3 s6 s7 s10
          go_wp2
          replace rX := rX.below (bd _) rX.lt
          replace bX := bt bX (bd _)
          replace s8 := Src.below s8 (bd _) (Src.lt s8)
          replace sM := Src.below sM (bd _) (Src.lt sM)
          refine wp_region_noPanic ?_
          refine wp_region_held_drew (S := fun W => Row W w.heap.size 45 (tcells t)) (by kernel_rfl) (rX) (fun hHeld => ?_)
          refine tA 0 ?_
          refine tA 1 ?_
          refine tA 2 ?_
          refine tA 3 ?_
          refine tA 4 ?_
          refine tL 5 rfl (yQ t.pr (fun W hW => hW.rPr) (by rfl) rfl rfl) ?_
          refine r1 6 fun K hK => ?_
          go_simp
          refine (callsN (HS _)).mono ?_
          rintro e w7 ⟨aZ, nZ, cZ, rfl, o7, d6⟩
          have sZ := own_srcP o7
          clear o7
          replace bX := bt bX d6
          replace rX := rX.below d6 rX.lt
          try replace s9 := s9.below d6 s9.lt
          try replace oF := oF.below d6 oF.lt
          try replace sM := sM.below d6 sM.lt
          try replace s8 := s8.below d6 s8.lt
          clear d6
          refine oK hK (by exact rX) fun hHeld => ?_
          clear hK K
          refine r1 7 fun K hK => ?_
          refine sBS [(0, .tmp 136), (1, .tmp 137), (2, .tmp 140)] (svcells [⟨some ⟨w.heap.size, 9, none⟩, 8, 8, t.id.l⟩, ⟨ma, mn, mc, M⟩, ⟨aZ, nZ, cZ, C⟩]) (by rfl) rfl (rbS_3 ⟨some ⟨w.heap.size, 9, none⟩, 8, 8, t.id.l⟩ ⟨ma, mn, mc, M⟩ ⟨aZ, nZ, cZ, C⟩) rfl ?_
          intro g7 w9 s9 d7
          replace bX := bt bX d7
          replace rX := rX.below d7 rX.lt
          try replace sZ := sZ.below d7 sZ.lt
          try replace oF := oF.below d7 oF.lt
          try replace sM := sM.below d7 sM.lt
          try replace s8 := s8.below d7 s8.lt
          clear d7
          refine oK hK (by exact rX) fun hHeld => ?_
          clear hK K
          refine r1 8 fun K hK => ?_
          go_simp
          refine (callsN (putb_3 a8 _ c8 _ (some ⟨g7, 0, none⟩) ⟨some ⟨w.heap.size, 9, none⟩, 8, 8, t.id.l⟩ ⟨ma, mn, mc, M⟩ ⟨aZ, nZ, cZ, C⟩ _ s8 s9 (rX.idSrc 8) sM sZ HL8.out HI.out HM.out HC.out)).mono ?_
          rintro e wF ⟨aF, nF, cF, rfl, oF, d8⟩
          have sF := bX.size
          replace bX := bt bX d8
          replace rX := rX.below d8 rX.lt
          try replace sZ := sZ.below d8 sZ.lt
          try replace s9 := s9.below d8 s9.lt
          try replace sM := sM.below d8 sM.lt
          try replace s8 := s8.below d8 s8.lt
          clear d8
          refine oK hK (by exact rX) fun hHeld => ?_
          clear hK K
          refine tA 9 ?_
          refine dN ?_
          refine NoPanic.normal ?_
          go_wp2
          go_ret
          exact ⟨aF, nF, cF, rfl, own_cast (by rw [HE.out]; simp) (own_le oF sF), bX⟩
        refine cE fun K hK => ?_
        refine sBS [(0, .tmp 131), (1, .const (.int .u8 0))] (n8 [t.hops, 0]) (by rfl) rfl (rb8_2 _ _) rfl ?_
        intro g10 w10 s10 d10
        replace bX := bt bX d10
        replace rX := rX.below d10 rX.lt
        try replace s2 := s2.below d10 s2.lt
        try replace s3 := s3.below d10 s3.lt
        try replace s6 := s6.below d10 s6.lt
        try replace s7 := s7.below d10 s7.lt
        try replace s8 := s8.below d10 s8.lt
        try replace sM := sM.below d10 sM.lt
        clear d10
        refine oK hK (by exact rX) fun hHeld => ?_
        clear hK K
        refine r1 7 fun K hK => ?_
        go_simp
        refine (callsN (put16_n a3 _ c3 _ (some ⟨g6, 0, none⟩) 1 1 [t.seq] _ s3 s6 HB.out (by simp) (by simp))).mono ?_
        rintro e w7 ⟨a7, n7, c7, rfl, o7, d7⟩
        have s7 := own_srcP o7
        clear o7
        replace bX := bt bX d7
        replace rX := rX.below d7 rX.lt
        try replace s2 := s2.below d7 s2.lt
        try replace s3 := s3.below d7 s3.lt
        try replace s6 := s6.below d7 s6.lt
        try replace s10 := s10.below d7 s10.lt
        try replace s8 := s8.below d7 s8.lt
        try replace sM := sM.below d7 sM.lt
        clear d7
        refine oK hK (by exact rX) fun hHeld => ?_
        clear hK K
        refine r1 11 fun K hK => ?_
        go_simp
        refine (callsN (put8_n a7 _ c7 _ (some ⟨g10, 0, none⟩) 2 2 [t.hops, 0] _ s7 s10 HO.out (by simp [hw_len]) (by simp))).mono ?_
        rintro e w11 ⟨a8, n8, c8, rfl, o8, d11⟩
        have s8 := own_srcP o8
        clear o8
        replace bX := bt bX d11
        replace rX := rX.below d11 rX.lt
        try replace s2 := s2.below d11 s2.lt
        try replace s3 := s3.below d11 s3.lt
        try replace s6 := s6.below d11 s6.lt
        try replace s7 := s7.below d11 s7.lt
        try replace s10 := s10.below d11 s10.lt
        try replace sM := sM.below d11 sM.lt
        clear d11
        refine oK hK (by exact rX) fun hHeld => ?_
        clear hK K
        refine tA 12 ?_
        refine dN ?_
        refine NoPanic.normal ?_
        have HL8 : Hid (([] ++ List.map UInt8.ofNat [E.toNat, N] ++ List.flatMap hw [t.seq] ++ List.map UInt8.ofNat [t.hops, 0]).length ≤ 1000) := (by show _ ≤ _; simp [hw_len])
        clear hHeld s2 s3 s6 s7 s10
        go_wp2
        replace rX := rX.below (bd _) rX.lt
        replace bX := bt bX (bd _)
        replace s8 := Src.below s8 (bd _) (Src.lt s8)
        replace sM := Src.below sM (bd _) (Src.lt sM)
        refine wp_region_noPanic ?_
        refine wp_region_held_drew (S := fun W => Row W w.heap.size 45 (tcells t)) (by kernel_rfl) (rX) (fun hHeld => ?_)
        refine tA 0 ?_
        refine tA 1 ?_
        refine tA 2 ?_
        refine tA 3 ?_
        refine tA 4 ?_
        refine tL 5 rfl (yQ t.pr (fun W hW => hW.rPr) (by rfl) rfl rfl) ?_
        refine r1 6 fun K hK => ?_
        go_simp
        refine (callsN (HS _)).mono ?_
        rintro e w7 ⟨aZ, nZ, cZ, rfl, o7, d6⟩
        have sZ := own_srcP o7
        clear o7
        replace bX := bt bX d6
        replace rX := rX.below d6 rX.lt
        try replace s9 := s9.below d6 s9.lt
        try replace oF := oF.below d6 oF.lt
        try replace sM := sM.below d6 sM.lt
        try replace s8 := s8.below d6 s8.lt
        clear d6
        refine oK hK (by exact rX) fun hHeld => ?_
        clear hK K
        refine r1 7 fun K hK => ?_
        refine sBS [(0, .tmp 136), (1, .tmp 137), (2, .tmp 140)] (svcells [⟨some ⟨w.heap.size, 9, none⟩, 8, 8, t.id.l⟩, ⟨ma, mn, mc, M⟩, ⟨aZ, nZ, cZ, C⟩]) (by rfl) rfl (rbS_3 ⟨some ⟨w.heap.size, 9, none⟩, 8, 8, t.id.l⟩ ⟨ma, mn, mc, M⟩ ⟨aZ, nZ, cZ, C⟩) rfl ?_
        intro g7 w9 s9 d7
        replace bX := bt bX d7
        replace rX := rX.below d7 rX.lt
        try replace sZ := sZ.below d7 sZ.lt
        try replace oF := oF.below d7 oF.lt
        try replace sM := sM.below d7 sM.lt
        try replace s8 := s8.below d7 s8.lt
        clear d7
        refine oK hK (by exact rX) fun hHeld => ?_
        clear hK K
        refine r1 8 fun K hK => ?_
        go_simp
        refine (callsN (putb_3 a8 _ c8 _ (some ⟨g7, 0, none⟩) ⟨some ⟨w.heap.size, 9, none⟩, 8, 8, t.id.l⟩ ⟨ma, mn, mc, M⟩ ⟨aZ, nZ, cZ, C⟩ _ s8 s9 (rX.idSrc 8) sM sZ HL8.out HI.out HM.out HC.out)).mono ?_
        rintro e wF ⟨aF, nF, cF, rfl, oF, d8⟩
        have sF := bX.size
        replace bX := bt bX d8
        replace rX := rX.below d8 rX.lt
        try replace sZ := sZ.below d8 sZ.lt
        try replace s9 := s9.below d8 s9.lt
        try replace sM := sM.below d8 sM.lt
        try replace s8 := s8.below d8 s8.lt
        clear d8
        refine oK hK (by exact rX) fun hHeld => ?_
        clear hK K
        refine tA 9 ?_
        refine dN ?_
        refine NoPanic.normal ?_
        go_wp2
        go_ret
        exact ⟨aF, nF, cF, rfl, own_cast (by rw [HE.out]; simp) (own_le oF sF), bX⟩
      refine cE fun K hK => ?_
      refine sBS [(0, .tmp 131), (1, .const (.int .u8 0))] (n8 [t.hops, 0]) (by rfl) rfl (rb8_2 _ _) rfl ?_
      intro g10 w10 s10 d10
      replace bX := bt bX d10
      replace rX := rX.below d10 rX.lt
      try replace s2 := s2.below d10 s2.lt
      try replace s3 := s3.below d10 s3.lt
      try replace s6 := s6.below d10 s6.lt
      try replace s7 := s7.below d10 s7.lt
      try replace s8 := s8.below d10 s8.lt
      try replace sM := sM.below d10 sM.lt
      clear d10
      refine oK hK (by exact rX) fun hHeld => ?_
      clear hK K
      refine r1 3 fun K hK => ?_
      go_simp
      refine (callsN (put8_n none 0 0 [] (some ⟨g2, 0, none⟩) 2 2 [E.toNat, N] _ (Src.nil _) s2 HX.out (by simp) (by simp))).mono ?_
      rintro e w3 ⟨a3, n3, c3, rfl, o3, d3⟩
      have s3 := own_srcP o3
      clear o3
      replace bX := bt bX d3
      replace rX := rX.below d3 rX.lt
      try replace s2 := s2.below d3 s2.lt
      try replace s6 := s6.below d3 s6.lt
      try replace s7 := s7.below d3 s7.lt
      try replace s10 := s10.below d3 s10.lt
      try replace s8 := s8.below d3 s8.lt
      try replace sM := sM.below d3 sM.lt
      clear d3
      refine oK hK (by exact rX) fun hHeld => ?_
      clear hK K
      refine r1 7 fun K hK => ?_
      go_simp
      refine (callsN (put16_n a3 _ c3 _ (some ⟨g6, 0, none⟩) 1 1 [t.seq] _ s3 s6 HB.out (by simp) (by simp))).mono ?_
      rintro e w7 ⟨a7, n7, c7, rfl, o7, d7⟩
      have s7 := own_srcP o7
      clear o7
      replace bX := bt bX d7
      replace rX := rX.below d7 rX.lt
      try replace s2 := s2.below d7 s2.lt
      try replace s3 := s3.below d7 s3.lt
      try replace s6 := s6.below d7 s6.lt
      try replace s10 := s10.below d7 s10.lt
      try replace s8 := s8.below d7 s8.lt
      try replace sM := sM.below d7 sM.lt
      clear d7
      refine oK hK (by exact rX) fun hHeld => ?_
      clear hK K
      refine r1 11 fun K hK => ?_
      go_simp
      refine (callsN (put8_n a7 _ c7 _ (some ⟨g10, 0, none⟩) 2 2 [t.hops, 0] _ s7 s10 HO.out (by simp [hw_len]) (by simp))).mono ?_
      rintro e w11 ⟨a8, n8, c8, rfl, o8, d11⟩
      have s8 := own_srcP o8
      clear o8
      replace bX := bt bX d11
      replace rX := rX.below d11 rX.lt
      try replace s2 := s2.below d11 s2.lt
      try replace s3 := s3.below d11 s3.lt
      try replace s6 := s6.below d11 s6.lt
      try replace s7 := s7.below d11 s7.lt
      try replace s10 := s10.below d11 s10.lt
      try replace sM := sM.below d11 sM.lt
      clear d11
      refine oK hK (by exact rX) fun hHeld => ?_
      clear hK K
      refine tA 12 ?_
      refine dN ?_
      refine NoPanic.normal ?_
      have HL8 : Hid (([] ++ List.map UInt8.ofNat [E.toNat, N] ++ List.flatMap hw [t.seq] ++ List.map UInt8.ofNat [t.hops, 0]).length ≤ 1000) := (by show _ ≤ _; simp [hw_len])
      clear hHeld s2 s3 s6 s7 s10
      go_wp2
      replace rX := rX.below (bd _) rX.lt
      replace bX := bt bX (bd _)
      replace s8 := Src.below s8 (bd _) (Src.lt s8)
      replace sM := Src.below sM (bd _) (Src.lt sM)
      refine wp_region_noPanic ?_
      refine wp_region_held_drew (S := fun W => Row W w.heap.size 45 (tcells t)) (by kernel_rfl) (rX) (fun hHeld => ?_)
      refine tA 0 ?_
      refine tA 1 ?_
      refine tA 2 ?_
      refine tA 3 ?_
      refine tA 4 ?_
      refine tL 5 rfl (yQ t.pr (fun W hW => hW.rPr) (by rfl) rfl rfl) ?_
      refine r1 6 fun K hK => ?_
      go_simp
      refine (callsN (HS _)).mono ?_
      rintro e w7 ⟨aZ, nZ, cZ, rfl, o7, d6⟩
      have sZ := own_srcP o7
      clear o7
      replace bX := bt bX d6
      replace rX := rX.below d6 rX.lt
      try replace s9 := s9.below d6 s9.lt
      try replace oF := oF.below d6 oF.lt
      try replace sM := sM.below d6 sM.lt
      try replace s8 := s8.below d6 s8.lt
      clear d6
      refine oK hK (by exact rX) fun hHeld => ?_
      clear hK K
      refine r1 7 fun K hK => ?_
      refine sBS [(0, .tmp 136), (1, .tmp 137), (2, .tmp 140)] (svcells [⟨some ⟨w.heap.size, 9, none⟩, 8, 8, t.id.l⟩, ⟨ma, mn, mc, M⟩, ⟨aZ, nZ, cZ, C⟩]) (by rfl) rfl (rbS_3 ⟨some ⟨w.heap.size, 9, none⟩, 8, 8, t.id.l⟩ ⟨ma, mn, mc, M⟩ ⟨aZ, nZ, cZ, C⟩) rfl ?_
      intro g7 w9 s9 d7
      replace bX := bt bX d7
      replace rX := rX.below d7 rX.lt
      try replace sZ := sZ.below d7 sZ.lt
      try replace oF := oF.below d7 oF.lt
      try replace sM := sM.below d7 sM.lt
      try replace s8 := s8.below d7 s8.lt
      clear d7
      refine oK hK (by exact rX) fun hHeld => ?_
      clear hK K
      refine r1 8 fun K hK => ?_
      go_simp
      refine (callsN (putb_3 a8 _ c8 _ (some ⟨g7, 0, none⟩) ⟨some ⟨w.heap.size, 9, none⟩, 8, 8, t.id.l⟩ ⟨ma, mn, mc, M⟩ ⟨aZ, nZ, cZ, C⟩ _ s8 s9 (rX.idSrc 8) sM sZ HL8.out HI.out HM.out HC.out)).mono ?_
      rintro e wF ⟨aF, nF, cF, rfl, oF, d8⟩
      have sF := bX.size
      replace bX := bt bX d8
      replace rX := rX.below d8 rX.lt
      try replace sZ := sZ.below d8 sZ.lt
      try replace s9 := s9.below d8 s9.lt
      try replace sM := sM.below d8 sM.lt
      try replace s8 := s8.below d8 s8.lt
      clear d8
      refine oK hK (by exact rX) fun hHeld => ?_
      clear hK K
      refine tA 9 ?_
      refine dN ?_
      refine NoPanic.normal ?_
      go_wp2
      go_ret
      exact ⟨aF, nF, cF, rfl, own_cast (by rw [HE.out]; simp) (own_le oF sF), bX⟩
    refine cE fun K hK => ?_
    refine sBS [(0, .tmp 131), (1, .const (.int .u8 0))] (n8 [t.hops, 0]) (by rfl) rfl (rb8_2 _ _) rfl ?_
    intro g10 w10 s10 d10
    replace bX := bt bX d10
    replace rX := rX.below d10 rX.lt
    try replace s2 := s2.below d10 s2.lt
    try replace s3 := s3.below d10 s3.lt
    try replace s6 := s6.below d10 s6.lt
    try replace s7 := s7.below d10 s7.lt
    try replace s8 := s8.below d10 s8.lt
    try replace sM := sM.below d10 sM.lt
    clear d10
    refine oK hK (by exact rX) fun hHeld => ?_
    clear hK K
    refine r1 2 fun K hK => ?_
    refine sBS [(0, .tmp 122), (1, .tmp 123)] (n8 [E.toNat, N]) (by rfl) rfl (rb8_2 _ _) rfl ?_
    intro g2 w2 s2 d2
    replace bX := bt bX d2
    replace rX := rX.below d2 rX.lt
    try replace s3 := s3.below d2 s3.lt
    try replace s6 := s6.below d2 s6.lt
    try replace s7 := s7.below d2 s7.lt
    try replace s10 := s10.below d2 s10.lt
    try replace s8 := s8.below d2 s8.lt
    try replace sM := sM.below d2 sM.lt
    clear d2
    refine oK hK (by exact rX) fun hHeld => ?_
    clear hK K
    refine r1 3 fun K hK => ?_
    go_simp
    refine (callsN (put8_n none 0 0 [] (some ⟨g2, 0, none⟩) 2 2 [E.toNat, N] _ (Src.nil _) s2 HX.out (by simp) (by simp))).mono ?_
    rintro e w3 ⟨a3, n3, c3, rfl, o3, d3⟩
    have s3 := own_srcP o3
    clear o3
    replace bX := bt bX d3
    replace rX := rX.below d3 rX.lt
    try replace s2 := s2.below d3 s2.lt
    try replace s6 := s6.below d3 s6.lt
    try replace s7 := s7.below d3 s7.lt
    try replace s10 := s10.below d3 s10.lt
    try replace s8 := s8.below d3 s8.lt
    try replace sM := sM.below d3 sM.lt
    clear d3
    refine oK hK (by exact rX) fun hHeld => ?_
    clear hK K
    refine r1 7 fun K hK => ?_
    go_simp
    refine (callsN (put16_n a3 _ c3 _ (some ⟨g6, 0, none⟩) 1 1 [t.seq] _ s3 s6 HB.out (by simp) (by simp))).mono ?_
    rintro e w7 ⟨a7, n7, c7, rfl, o7, d7⟩
    have s7 := own_srcP o7
    clear o7
    replace bX := bt bX d7
    replace rX := rX.below d7 rX.lt
    try replace s2 := s2.below d7 s2.lt
    try replace s3 := s3.below d7 s3.lt
    try replace s6 := s6.below d7 s6.lt
    try replace s10 := s10.below d7 s10.lt
    try replace s8 := s8.below d7 s8.lt
    try replace sM := sM.below d7 sM.lt
    clear d7
    refine oK hK (by exact rX) fun hHeld => ?_
    clear hK K
    refine r1 11 fun K hK => ?_
    go_simp
    refine (callsN (put8_n a7 _ c7 _ (some ⟨g10, 0, none⟩) 2 2 [t.hops, 0] _ s7 s10 HO.out (by simp [hw_len]) (by simp))).mono ?_
    rintro e w11 ⟨a8, n8, c8, rfl, o8, d11⟩
    have s8 := own_srcP o8
    clear o8
    replace bX := bt bX d11
    replace rX := rX.below d11 rX.lt
    try replace s2 := s2.below d11 s2.lt
    try replace s3 := s3.below d11 s3.lt
    try replace s6 := s6.below d11 s6.lt
    try replace s7 := s7.below d11 s7.lt
    try replace s10 := s10.below d11 s10.lt
    try replace sM := sM.below d11 sM.lt
    clear d11
    refine oK hK (by exact rX) fun hHeld => ?_
    clear hK K
    refine tA 12 ?_
    refine dN ?_
    refine NoPanic.normal ?_
    have HL8 : Hid (([] ++ List.map UInt8.ofNat [E.toNat, N] ++ List.flatMap hw [t.seq] ++ List.map UInt8.ofNat [t.hops, 0]).length ≤ 1000) := (by show _ ≤ _; simp [hw_len])
    clear hHeld s2 s3 s6 s7 s10
    go_wp2
    replace rX := rX.below (bd _) rX.lt
    replace bX := bt bX (bd _)
    replace s8 := Src.below s8 (bd _) (Src.lt s8)
    replace sM := Src.below sM (bd _) (Src.lt sM)
    refine wp_region_noPanic ?_
    refine wp_region_held_drew (S := fun W => Row W w.heap.size 45 (tcells t)) (by kernel_rfl) (rX) (fun hHeld => ?_)
    refine tA 0 ?_
    refine tA 1 ?_
    refine tA 2 ?_
    refine tA 3 ?_
    refine tA 4 ?_
    refine tL 5 rfl (yQ t.pr (fun W hW => hW.rPr) (by rfl) rfl rfl) ?_
    refine r1 6 fun K hK => ?_
    go_simp
    refine (callsN (HS _)).mono ?_
    rintro e w7 ⟨aZ, nZ, cZ, rfl, o7, d6⟩
    have sZ := own_srcP o7
    clear o7
    replace bX := bt bX d6
    replace rX := rX.below d6 rX.lt
    try replace s9 := s9.below d6 s9.lt
    try replace oF := oF.below d6 oF.lt
    try replace sM := sM.below d6 sM.lt
    try replace s8 := s8.below d6 s8.lt
    clear d6
    refine oK hK (by exact rX) fun hHeld => ?_
    clear hK K
    refine r1 7 fun K hK => ?_
    refine sBS [(0, .tmp 136), (1, .tmp 137), (2, .tmp 140)] (svcells [⟨some ⟨w.heap.size, 9, none⟩, 8, 8, t.id.l⟩, ⟨ma, mn, mc, M⟩, ⟨aZ, nZ, cZ, C⟩]) (by rfl) rfl (rbS_3 ⟨some ⟨w.heap.size, 9, none⟩, 8, 8, t.id.l⟩ ⟨ma, mn, mc, M⟩ ⟨aZ, nZ, cZ, C⟩) rfl ?_
    intro g7 w9 s9 d7
    replace bX := bt bX d7
    replace rX := rX.below d7 rX.lt
    try replace sZ := sZ.below d7 sZ.lt
    try replace oF := oF.below d7 oF.lt
    try replace sM := sM.below d7 sM.lt
    try replace s8 := s8.below d7 s8.lt
    clear d7
    refine oK hK (by exact rX) fun hHeld => ?_
    clear hK K
    refine r1 8 fun K hK => ?_
    go_simp
    refine (callsN (putb_3 a8 _ c8 _ (some ⟨g7, 0, none⟩) ⟨some ⟨w.heap.size, 9, none⟩, 8, 8, t.id.l⟩ ⟨ma, mn, mc, M⟩ ⟨aZ, nZ, cZ, C⟩ _ s8 s9 (rX.idSrc 8) sM sZ HL8.out HI.out HM.out HC.out)).mono ?_
    rintro e wF ⟨aF, nF, cF, rfl, oF, d8⟩
    have sF := bX.size
    replace bX := bt bX d8
    replace rX := rX.below d8 rX.lt
    try replace sZ := sZ.below d8 sZ.lt
    try replace s9 := s9.below d8 s9.lt
    try replace sM := sM.below d8 sM.lt
    try replace s8 := s8.below d8 s8.lt
    clear d8
    refine oK hK (by exact rX) fun hHeld => ?_
    clear hK K
    refine tA 9 ?_
    refine dN ?_
    refine NoPanic.normal ?_
    go_wp2
    go_ret
    exact ⟨aF, nF, cF, rfl, own_cast (by rw [HE.out]; simp) (own_le oF sF), bX⟩
  refine cE fun K hK => ?_
  refine sBS [(0, .tmp 131), (1, .const (.int .u8 0))] (n8 [t.hops, 0]) (by rfl) rfl (rb8_2 _ _) rfl ?_
  intro g10 w10 s10 d10
  replace bX := bt bX d10
  replace rX := rX.below d10 rX.lt
  try replace s2 := s2.below d10 s2.lt
  try replace s3 := s3.below d10 s3.lt
  try replace s6 := s6.below d10 s6.lt
  try replace s7 := s7.below d10 s7.lt
  try replace s8 := s8.below d10 s8.lt
  try replace sM := sM.below d10 sM.lt
  clear d10
  refine oK hK (by exact rX) fun hHeld => ?_
  clear hK K
  refine rM [2,6] ?_
  refine cL (fun K hK => ?_) ?_
  · skip
    refine sBS [(0, .tmp 122), (1, .tmp 123)] (n8 [E.toNat, N]) (by rfl) rfl (rb8_2 _ _) rfl ?_
    intro g2 w2 s2 d2
    replace bX := bt bX d2
    replace rX := rX.below d2 rX.lt
    try replace s3 := s3.below d2 s3.lt
    try replace s6 := s6.below d2 s6.lt
    try replace s7 := s7.below d2 s7.lt
    try replace s10 := s10.below d2 s10.lt
    try replace s8 := s8.below d2 s8.lt
    try replace sM := sM.below d2 sM.lt
    clear d2
    refine oK hK (by exact rX) fun hHeld => ?_
    clear hK K
    refine rM [3,6] ?_
    refine cL (fun K hK => ?_) ?_
    · skip
      go_simp
      refine (callsN (put8_n none 0 0 [] (some ⟨g2, 0, none⟩) 2 2 [E.toNat, N] _ (Src.nil _) s2 HX.out (by simp) (by simp))).mono ?_
      rintro e w3 ⟨a3, n3, c3, rfl, o3, d3⟩
      have s3 := own_srcP o3
      clear o3
      replace bX := bt bX d3
      replace rX := rX.below d3 rX.lt
      try replace s2 := s2.below d3 s2.lt
      try replace s6 := s6.below d3 s6.lt
      try replace s7 := s7.below d3 s7.lt
      try replace s10 := s10.below d3 s10.lt
      try replace s8 := s8.below d3 s8.lt
      try replace sM := sM.below d3 sM.lt
      clear d3
      refine oK hK (by exact rX) fun hHeld => ?_
      clear hK K
      refine r1 6 fun K hK => ?_
      refine sBS [(0, .tmp 127)] (n16 [t.seq]) (by rfl) rfl (rb16_1 _) rfl ?_
      intro g6 w6 s6 d6
      replace bX := bt bX d6
      replace rX := rX.below d6 rX.lt
      try replace s2 := s2.below d6 s2.lt
      try replace s3 := s3.below d6 s3.lt
      try replace s7 := s7.below d6 s7.lt
      try replace s10 := s10.below d6 s10.lt
      try replace s8 := s8.below d6 s8.lt
      try replace sM := sM.below d6 sM.lt
      clear d6
      refine oK hK (by exact rX) fun hHeld => ?_
      clear hK K
      refine r1 7 fun K hK => ?_
      go_simp
      refine (callsN (put16_n a3 _ c3 _ (some ⟨g6, 0, none⟩) 1 1 [t.seq] _ s3 s6 HB.out (by simp) (by simp))).mono ?_
      rintro e w7 ⟨a7, n7, c7, rfl, o7, d7⟩
      have s7 := own_srcP o7
      clear o7
      replace bX := bt bX d7
      replace rX := rX.below d7 rX.lt
      try replace s2 := s2.below d7 s2.lt
      try replace s3 := s3.below d7 s3.lt
      try replace s6 := s6.below d7 s6.lt
      try replace s10 := s10.below d7 s10.lt
      try replace s8 := s8.below d7 s8.lt
      try replace sM := sM.below d7 sM.lt
      clear d7
      refine oK hK (by exact rX) fun hHeld => ?_
      clear hK K
      refine r1 11 fun K hK => ?_
      go_simp
      refine (callsN (put8_n a7 _ c7 _ (some ⟨g10, 0, none⟩) 2 2 [t.hops, 0] _ s7 s10 HO.out (by simp [hw_len]) (by simp))).mono ?_
      rintro e w11 ⟨a8, n8, c8, rfl, o8, d11⟩
      have s8 := own_srcP o8
      clear o8
      replace bX := bt bX d11
      replace rX := rX.below d11 rX.lt
      try replace s2 := s2.below d11 s2.lt
      try replace s3 := s3.below d11 s3.lt
      try replace s6 := s6.below d11 s6.lt
      try replace s7 := s7.below d11 s7.lt
      try replace s10 := s10.below d11 s10.lt
      try replace sM := sM.below d11 sM.lt
      clear d11
      refine oK hK (by exact rX) fun hHeld => ?_
      clear hK K
      refine tA 12 ?_
      refine dN ?_
      refine NoPanic.normal ?_
      have HL8 : Hid (([] ++ List.map UInt8.ofNat [E.toNat, N] ++ List.flatMap hw [t.seq] ++ List.map UInt8.ofNat [t.hops, 0]).length ≤ 1000) := (by show _ ≤ _; simp [hw_len])
      clear hHeld s2 s3 s6 s7 s10
      go_wp2
      replace rX := rX.below (bd _) rX.lt
      replace bX := bt bX (bd _)
      replace s8 := Src.below s8 (bd _) (Src.lt s8)
      replace sM := Src.below sM (bd _) (Src.lt sM)
      refine wp_region_noPanic ?_
      refine wp_region_held_drew (S := fun W => Row W w.heap.size 45 (tcells t)) (by kernel_rfl) (rX) (fun hHeld => ?_)
      refine tA 0 ?_
      refine tA 1 ?_
      refine tA 2 ?_
      refine tA 3 ?_
      refine tA 4 ?_
      refine tL 5 rfl (yQ t.pr (fun W hW => hW.rPr) (by rfl) rfl rfl) ?_
      refine r1 6 fun K hK => ?_
      go_simp
      refine (callsN (HS _)).mono ?_
      rintro e w7 ⟨aZ, nZ, cZ, rfl, o7, d6⟩
      have sZ := own_srcP o7
      clear o7
      replace bX := bt bX d6
      replace rX := rX.below d6 rX.lt
      try replace s9 := s9.below d6 s9.lt
      try replace oF := oF.below d6 oF.lt
      try replace sM := sM.below d6 sM.lt
      try replace s8 := s8.below d6 s8.lt
      clear d6
      refine oK hK (by exact rX) fun hHeld => ?_
      clear hK K
      refine r1 7 fun K hK => ?_
      refine sBS [(0, .tmp 136), (1, .tmp 137), (2, .tmp 140)] (svcells [⟨some ⟨w.heap.size, 9, none⟩, 8, 8, t.id.l⟩, ⟨ma, mn, mc, M⟩, ⟨aZ, nZ, cZ, C⟩]) (by rfl) rfl (rbS_3 ⟨some ⟨w.heap.size, 9, none⟩, 8, 8, t.id.l⟩ ⟨ma, mn, mc, M⟩ ⟨aZ, nZ, cZ, C⟩) rfl ?_
      intro g7 w9 s9 d7
      replace bX := bt bX d7
      replace rX := rX.below d7 rX.lt
      try replace sZ := sZ.below d7 sZ.lt
      try replace oF := oF.below d7 oF.lt
      try replace sM := sM.below d7 sM.lt
      try replace s8 := s8.below d7 s8.lt
      clear d7
      refine oK hK (by exact rX) fun hHeld => ?_
      clear hK K
      refine r1 8 fun K hK => ?_
      go_simp
      refine (callsN (putb_3 a8 _ c8 _ (some ⟨g7, 0, none⟩) ⟨some ⟨w.heap.size, 9, none⟩, 8, 8, t.id.l⟩ ⟨ma, mn, mc, M⟩ ⟨aZ, nZ, cZ, C⟩ _ s8 s9 (rX.idSrc 8) sM sZ HL8.out HI.out HM.out HC.out)).mono ?_
      rintro e wF ⟨aF, nF, cF, rfl, oF, d8⟩
      have sF := bX.size
      replace bX := bt bX d8
      replace rX := rX.below d8 rX.lt
      try replace sZ := sZ.below d8 sZ.lt
      try replace s9 := s9.below d8 s9.lt
      try replace sM := sM.below d8 sM.lt
      try replace s8 := s8.below d8 s8.lt
      clear d8
      refine oK hK (by exact rX) fun hHeld => ?_
      clear hK K
      refine tA 9 ?_
      refine dN ?_
      refine NoPanic.normal ?_
      go_wp2
      go_ret
      exact ⟨aF, nF, cF, rfl, own_cast (by rw [HE.out]; simp) (own_le oF sF), bX⟩
    refine cE fun K hK => ?_
    refine sBS [(0, .tmp 127)] (n16 [t.seq]) (by rfl) rfl (rb16_1 _) rfl ?_
    intro g6 w6 s6 d6
    replace bX := bt bX d6
    replace rX := rX.below d6 rX.lt
    try replace s2 := s2.below d6 s2.lt
    try replace s3 := s3.below d6 s3.lt
    try replace s7 := s7.below d6 s7.lt
    try replace s10 := s10.below d6 s10.lt
    try replace s8 := s8.below d6 s8.lt
    try replace sM := sM.below d6 sM.lt
    clear d6
    refine oK hK (by exact rX) fun hHeld => ?_
    clear hK K
    refine r1 3 fun K hK => ?_
    go_simp
    refine (callsN (put8_n none 0 0 [] (some ⟨g2, 0, none⟩) 2 2 [E.toNat, N] _ (Src.nil _) s2 HX.out (by simp) (by simp))).mono ?_
    rintro e w3 ⟨a3, n3, c3, rfl, o3, d3⟩
    have s3 := own_srcP o3
    clear o3
    replace bX := bt bX d3
    replace rX := rX.below d3 rX.lt
    try replace s2 := s2.below d3 s2.lt
    try replace s6 := s6.below d3 s6.lt
    try replace s7 := s7.below d3 s7.lt
    try replace s10 := s10.below d3 s10.lt
    try replace s8 := s8.below d3 s8.lt
    try replace sM := sM.below d3 sM.lt
    clear d3
    refine oK hK (by exact rX) fun hHeld => ?_
    clear hK K
    refine r1 7 fun K hK => ?_
    go_simp
    refine (callsN (put16_n a3 _ c3 _ (some ⟨g6, 0, none⟩) 1 1 [t.seq] _ s3 s6 HB.out (by simp) (by simp))).mono ?_
    rintro e w7 ⟨a7, n7, c7, rfl, o7, d7⟩
    have s7 := own_srcP o7
    clear o7
    replace bX := bt bX d7
    replace rX := rX.below d7 rX.lt
    try replace s2 := s2.below d7 s2.lt
    try replace s3 := s3.below d7 s3.lt
    try replace s6 := s6.below d7 s6.lt
    try replace s10 := s10.below d7 s10.lt
    try replace s8 := s8.below d7 s8.lt
    try replace sM := sM.below d7 sM.lt
    clear d7
    refine oK hK (by exact rX) fun hHeld => ?_
    clear hK K
    refine r1 11 fun K hK => ?_
    go_simp
    refine (callsN (put8_n a7 _ c7 _ (some ⟨g10, 0, none⟩) 2 2 [t.hops, 0] _ s7 s10 HO.out (by simp [hw_len]) (by simp))).mono ?_
    rintro e w11 ⟨a8, n8, c8, rfl, o8, d11⟩
    have s8 := own_srcP o8
    clear o8
    replace bX := bt bX d11
    replace rX := rX.below d11 rX.lt
    try replace s2 := s2.below d11 s2.lt
    try replace s3 := s3.below d11 s3.lt
    try replace s6 := s6.below d11 s6.lt
    try replace s7 := s7.below d11 s7.lt
    try replace s10 := s10.below d11 s10.lt
    try replace sM := sM.below d11 sM.lt
    clear d11
    refine oK hK (by exact rX) fun hHeld => ?_
    clear hK K
    refine tA 12 ?_
    refine dN ?_
    refine NoPanic.normal ?_
    have HL8 : Hid (([] ++ List.map UInt8.ofNat [E.toNat, N] ++ List.flatMap hw [t.seq] ++ List.map UInt8.ofNat [t.hops, 0]).length ≤ 1000) := (by show _ ≤ _; simp [hw_len])
    clear hHeld s2 s3 s6 s7 s10
    go_wp2
    replace rX := rX.below (bd _) rX.lt
    replace bX := bt bX (bd _)
    replace s8 := Src.below s8 (bd _) (Src.lt s8)
    replace sM := Src.below sM (bd _) (Src.lt sM)
    refine wp_region_noPanic ?_
    refine wp_region_held_drew (S := fun W => Row W w.heap.size 45 (tcells t)) (by kernel_rfl) (rX) (fun hHeld => ?_)
    refine tA 0 ?_
    refine tA 1 ?_
    refine tA 2 ?_
    refine tA 3 ?_
    refine tA 4 ?_
    refine tL 5 rfl (yQ t.pr (fun W hW => hW.rPr) (by rfl) rfl rfl) ?_
    refine r1 6 fun K hK => ?_
    go_simp
    refine (callsN (HS _)).mono ?_
    rintro e w7 ⟨aZ, nZ, cZ, rfl, o7, d6⟩
    have sZ := own_srcP o7
    clear o7
    replace bX := bt bX d6
    replace rX := rX.below d6 rX.lt
    try replace s9 := s9.below d6 s9.lt
    try replace oF := oF.below d6 oF.lt
    try replace sM := sM.below d6 sM.lt
    try replace s8 := s8.below d6 s8.lt
    clear d6
    refine oK hK (by exact rX) fun hHeld => ?_
    clear hK K
    refine r1 7 fun K hK => ?_
    refine sBS [(0, .tmp 136), (1, .tmp 137), (2, .tmp 140)] (svcells [⟨some ⟨w.heap.size, 9, none⟩, 8, 8, t.id.l⟩, ⟨ma, mn, mc, M⟩, ⟨aZ, nZ, cZ, C⟩]) (by rfl) rfl (rbS_3 ⟨some ⟨w.heap.size, 9, none⟩, 8, 8, t.id.l⟩ ⟨ma, mn, mc, M⟩ ⟨aZ, nZ, cZ, C⟩) rfl ?_
    intro g7 w9 s9 d7
    replace bX := bt bX d7
    replace rX := rX.below d7 rX.lt
    try replace sZ := sZ.below d7 sZ.lt
    try replace oF := oF.below d7 oF.lt
    try replace sM := sM.below d7 sM.lt
    try replace s8 := s8.below d7 s8.lt
    clear d7
    refine oK hK (by exact rX) fun hHeld => ?_
    clear hK K
    refine r1 8 fun K hK => ?_
    go_simp
    refine (callsN (putb_3 a8 _ c8 _ (some ⟨g7, 0, none⟩) ⟨some ⟨w.heap.size, 9, none⟩, 8, 8, t.id.l⟩ ⟨ma, mn, mc, M⟩ ⟨aZ, nZ, cZ, C⟩ _ s8 s9 (rX.idSrc 8) sM sZ HL8.out HI.out HM.out HC.out)).mono ?_
    rintro e wF ⟨aF, nF, cF, rfl, oF, d8⟩
    have sF := bX.size
    replace bX := bt bX d8
    replace rX := rX.below d8 rX.lt
    try replace sZ := sZ.below d8 sZ.lt
    try replace s9 := s9.below d8 s9.lt
    try replace sM := sM.below d8 sM.lt
    try replace s8 := s8.below d8 s8.lt
    clear d8
    refine oK hK (by exact rX) fun hHeld => ?_
    clear hK K
    refine tA 9 ?_
    refine dN ?_
    refine NoPanic.normal ?_
    go_wp2
    go_ret
    exact ⟨aF, nF, cF, rfl, own_cast (by rw [HE.out]; simp) (own_le oF sF), bX⟩
  refine cE fun K hK => ?_
  refine sBS [(0, .tmp 127)] (n16 [t.seq]) (by rfl) rfl (rb16_1 _) rfl ?_
  intro g6 w6 s6 d6
  replace bX := bt bX d6
  replace rX := rX.below d6 rX.lt
  try replace s2 := s2.below d6 s2.lt
  try replace s3 := s3.below d6 s3.lt
  try replace s7 := s7.below d6 s7.lt
  try replace s10 := s10.below d6 s10.lt
  try replace s8 := s8.below d6 s8.lt
  try replace sM := sM.below d6 sM.lt
  clear d6
  refine oK hK (by exact rX) fun hHeld => ?_
  clear hK K
  refine r1 2 fun K hK => ?_
  refine sBS [(0, .tmp 122), (1, .tmp 123)] (n8 [E.toNat, N]) (by rfl) rfl (rb8_2 _ _) rfl ?_
  intro g2 w2 s2 d2
  replace bX := bt bX d2
  replace rX := rX.below d2 rX.lt
  try replace s3 := s3.below d2 s3.lt
  try replace s6 := s6.below d2 s6.lt
  try replace s7 := s7.below d2 s7.lt
  try replace s10 := s10.below d2 s10.lt
  try replace s8 := s8.below d2 s8.lt
  try replace sM := sM.below d2 sM.lt
  clear d2
  refine oK hK (by exact rX) fun hHeld => ?_
  clear hK K
  refine r1 3 fun K hK => ?_
  go_simp
  refine (callsN (put8_n none 0 0 [] (some ⟨g2, 0, none⟩) 2 2 [E.toNat, N] _ (Src.nil _) s2 HX.out (by simp) (by simp))).mono ?_
  rintro e w3 ⟨a3, n3, c3, rfl, o3, d3⟩
  have s3 := own_srcP o3
  clear o3
  replace bX := bt bX d3
  replace rX := rX.below d3 rX.lt
  try replace s2 := s2.below d3 s2.lt
  try replace s6 := s6.below d3 s6.lt
  try replace s7 := s7.below d3 s7.lt
  try replace s10 := s10.below d3 s10.lt
  try replace s8 := s8.below d3 s8.lt
  try replace sM := sM.below d3 sM.lt
  clear d3
  refine oK hK (by exact rX) fun hHeld => ?_
  clear hK K
  refine r1 7 fun K hK => ?_
  go_simp
  refine (callsN (put16_n a3 _ c3 _ (some ⟨g6, 0, none⟩) 1 1 [t.seq] _ s3 s6 HB.out (by simp) (by simp))).mono ?_
  rintro e w7 ⟨a7, n7, c7, rfl, o7, d7⟩
  have s7 := own_srcP o7
  clear o7
  replace bX := bt bX d7
  replace rX := rX.below d7 rX.lt
  try replace s2 := s2.below d7 s2.lt
  try replace s3 := s3.below d7 s3.lt
  try replace s6 := s6.below d7 s6.lt
  try replace s10 := s10.below d7 s10.lt
  try replace s8 := s8.below d7 s8.lt
  try replace sM := sM.below d7 sM.lt
  clear d7
  refine oK hK (by exact rX) fun hHeld => ?_
  clear hK K
  refine r1 11 fun K hK => ?_
  go_simp
  refine (callsN (put8_n a7 _ c7 _ (some ⟨g10, 0, none⟩) 2 2 [t.hops, 0] _ s7 s10 HO.out (by simp [hw_len]) (by simp))).mono ?_
  rintro e w11 ⟨a8, n8, c8, rfl, o8, d11⟩
  have s8 := own_srcP o8
  clear o8
  replace bX := bt bX d11
  replace rX := rX.below d11 rX.lt
  try replace s2 := s2.below d11 s2.lt
  try replace s3 := s3.below d11 s3.lt
  try replace s6 := s6.below d11 s6.lt
  try replace s7 := s7.below d11 s7.lt
  try replace s10 := s10.below d11 s10.lt
  try replace sM := sM.below d11 sM.lt
  clear d11
  refine oK hK (by exact rX) fun hHeld => ?_
  clear hK K
  refine tA 12 ?_
  refine dN ?_
  refine NoPanic.normal ?_
  have HL8 : Hid (([] ++ List.map UInt8.ofNat [E.toNat, N] ++ List.flatMap hw [t.seq] ++ List.map UInt8.ofNat [t.hops, 0]).length ≤ 1000) := (by show _ ≤ _; simp [hw_len])
  clear hHeld s2 s3 s6 s7 s10
  go_wp2
  replace rX := rX.below (bd _) rX.lt
  replace bX := bt bX (bd _)
  replace s8 := Src.below s8 (bd _) (Src.lt s8)
  replace sM := Src.below sM (bd _) (Src.lt sM)
  refine wp_region_noPanic ?_
  refine wp_region_held_drew (S := fun W => Row W w.heap.size 45 (tcells t)) (by kernel_rfl) (rX) (fun hHeld => ?_)
  refine tA 0 ?_
  refine tA 1 ?_
  refine tA 2 ?_
  refine tA 3 ?_
  refine tA 4 ?_
  refine tL 5 rfl (yQ t.pr (fun W hW => hW.rPr) (by rfl) rfl rfl) ?_
  refine r1 6 fun K hK => ?_
  go_simp
  refine (callsN (HS _)).mono ?_
  rintro e w7 ⟨aZ, nZ, cZ, rfl, o7, d6⟩
  have sZ := own_srcP o7
  clear o7
  replace bX := bt bX d6
  replace rX := rX.below d6 rX.lt
  try replace s9 := s9.below d6 s9.lt
  try replace oF := oF.below d6 oF.lt
  try replace sM := sM.below d6 sM.lt
  try replace s8 := s8.below d6 s8.lt
  clear d6
  refine oK hK (by exact rX) fun hHeld => ?_
  clear hK K
  refine r1 7 fun K hK => ?_
  refine sBS [(0, .tmp 136), (1, .tmp 137), (2, .tmp 140)] (svcells [⟨some ⟨w.heap.size, 9, none⟩, 8, 8, t.id.l⟩, ⟨ma, mn, mc, M⟩, ⟨aZ, nZ, cZ, C⟩]) (by rfl) rfl (rbS_3 ⟨some ⟨w.heap.size, 9, none⟩, 8, 8, t.id.l⟩ ⟨ma, mn, mc, M⟩ ⟨aZ, nZ, cZ, C⟩) rfl ?_
  intro g7 w9 s9 d7
  replace bX := bt bX d7
  replace rX := rX.below d7 rX.lt
  try replace sZ := sZ.below d7 sZ.lt
  try replace oF := oF.below d7 oF.lt
  try replace sM := sM.below d7 sM.lt
  try replace s8 := s8.below d7 s8.lt
  clear d7
  refine oK hK (by exact rX) fun hHeld => ?_
  clear hK K
  refine r1 8 fun K hK => ?_
  go_simp
  refine (callsN (putb_3 a8 _ c8 _ (some ⟨g7, 0, none⟩) ⟨some ⟨w.heap.size, 9, none⟩, 8, 8, t.id.l⟩ ⟨ma, mn, mc, M⟩ ⟨aZ, nZ, cZ, C⟩ _ s8 s9 (rX.idSrc 8) sM sZ HL8.out HI.out HM.out HC.out)).mono ?_
  rintro e wF ⟨aF, nF, cF, rfl, oF, d8⟩
  have sF := bX.size
  replace bX := bt bX d8
  replace rX := rX.below d8 rX.lt
  try replace sZ := sZ.below d8 sZ.lt
  try replace s9 := s9.below d8 s9.lt
  try replace sM := sM.below d8 sM.lt
  try replace s8 := s8.below d8 s8.lt
  clear d8
  refine oK hK (by exact rX) fun hHeld => ?_
  clear hK K
  refine tA 9 ?_
  refine dN ?_
  refine NoPanic.normal ?_
  go_wp2
  go_ret
  exact ⟨aF, nF, cF, rfl, own_cast (by rw [HE.out]; simp) (own_le oF sF), bX⟩
end Go.Proofs.YtdibjgcokebfbaaGreat
