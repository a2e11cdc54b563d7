/-
  piece, routerPiece, hopPiece and length of package pack.
-/
import Derived.Test.YtognnfknbkedgaaM08
import Derived.Test.YtognnfknbkedgaaM03
import Derived.Test.YtognnfknbkedgaaM04
import Derived.Test.YtognnfknbkedgaaM06
namespace Go.Proofs.Ytognnfknbkedgaa
open Go.RowKit
set_option linter.unusedSimpArgs false
set_option maxRecDepth 20000

/-- A Tlv that may be: what its piece needs. -/
structure TOk (k : TK) : Prop where
  fit : TFit k
  nam : namB k.ty = true
  st : k.st.length ≤ 2
  d0 : 0 ≤ k.pr.d.n
  d1 : k.pr.d.n ≤ 128
  s0 : 0 ≤ k.pr.s.n
  s1 : k.pr.s.n ≤ 128
theorem namB_cases' {y : Nat} (h : namB y = true) : y = 2 ∨ y = 3 ∨ y = 4 ∨ y = 5 ∨ y = 8 ∨ y = 9 ∨ y = 10 := by simpa [namB] using h
theorem body_any (t : Tl) (w : World) (ht : TSrc w t) (h : TOk t.key) : Calls Try.prog 69 #[.agg (tcells t).toArray] w (LaidN w (bodL t.key)) := by
  have hn : t.sn ≤ 2 := by rw [TSrc.len ht]; exact h.st
  rcases namB_cases' h.nam with hy | hy | hy | hy | hy | hy | hy
  · exact body_2 t w h.fit hy
  · exact body_3 t w h.fit hy
  · exact body_4 t w ht h.fit hy hn
  · exact body_5 t w ht h.fit hy hn
  · exact body_8 t w h.fit hy (.inr ⟨h.d0, h.d1⟩) h.s0 h.s1
  · exact body_9 t w hy (.inr ⟨h.d0, h.d1⟩) h.s0 h.s1
  · exact body_10 t w h.fit hy (.inr ⟨h.d0, h.d1⟩) h.s0 h.s1
/-- A piece in memory of the call's own. -/
def Pcd (w : World) (p : PK) (e : Ending) (w' : World) : Prop := ∃ a n c, e = .returned (.agg #[.int .u8 (p.1.toNat : Int), .slice a n c]) ∧ w'.ownsRow w.heap.size 5 1 (.slice a n c) n (bcells p.2) ∧ Below w.heap.size w w'
section
variable {ops : Array Oper} {op : Oper} {a : Act} {w : World} {K : Act → World → Prop} {Q : Exit → Act → World → Prop} {E : Prop}
theorem sStR (x y : Operand) (hw : Region.wanted op (yielded ops a.tmps) = true) (ho : op.op = .store 72 x y) (b : Nat) (u v u' v' : Value) (hx : a.eval x = .pointer (some ⟨b, 0, none⟩)) (hy : a.eval y = .agg #[u, v]) (hr : Row w b 72 [u', v'])
    (h1 : u.oneCell' = true) (h2 : v.oneCell' = true)
    (h : ∀ w', w.grownBy w' (some b) → Row w' b 72 [u, v] → K (a.put op.dst undef) w') : if Region.wanted op (yielded ops a.tmps) = true then Oper.wp Try.prog op a w K Q else E := by
  rw [if_pos hw]
  refine wp_store_mid _ x y ho b 0 _ hx hy (by simpa using hr.there (n := 2) (by simp)) (by rw [infoR]; simp) (all_oneCell_toArray (cs := [u, v]) (by intro z hz; simp at hz; rcases hz with rfl | rfl <;> assumption)) (h _ ?_ ?_)
  · have k := grownBy_trans (grownBy_setCell w b 0 u) (grownBy_setCell _ b 1 v)
    simpa [World.setCells] using k
  · have q := (hr.set 0 u).set 1 v
    simpa [World.setCells] using q
end
/-- Behind the store of a piece: it, its body, and what was below. -/
theorem Pcd.of {w W W' : World} {l : List UInt8} {a : Option Addr} {n c g : Nat} {cs : List Value} (hB : Below w.heap.size w W) (hg : W.grownBy W' (some g)) (hr : Row W g 72 cs) (hge : w.heap.size ≤ g) (ho : W.ownsRow w.heap.size 5 1 (.slice a n c) n (bcells l)) : w.heap.size ≤ g ∧ W'.ownsRow w.heap.size 5 1 (.slice a n c) n (bcells l) ∧ Below w.heap.size w W' :=
  ⟨hge, own_keep ho hg (.inl fun e => own_ne ho hr ne51 e.symm), hB.grown hg hB.size (fun k hk => by cases hk; exact hge)⟩
theorem routerPiece_any (i : Id8) (w : World) : Calls Try.prog 88 #[.agg (icells i).toArray] w (Pcd w (rtrK i)) := by
  have RI := (Row.new w 24 (icells i)).alloc (.cells #[.int .u8 0, .slice none 0 0] 72)
  have RR := two_newR w (.cells (icells i).toArray 24) 72 [.int .u8 0, .slice none 0 0]
  have BX := bt (ba w (.cells (icells i).toArray 24)) (ba _ (.cells #[.int .u8 0, .slice none 0 0] 72))
  have HI : Hid (i.l.length ≤ 1000) := by show _ ≤ _; rw [i.len]; decide
  have HB : Hid (∀ x ∈ [0], x < 65536) := fun x hx => by simp at hx; subst hx; decide
  obtain ⟨LL, HE0⟩ : ∃ LL, [] ++ List.flatMap hw [0] ++ i.l = LL := ⟨_, rfl⟩
  have HE : Hid ([] ++ List.flatMap hw [0] ++ i.l = LL) := HE0
  clear HE0
  have HK : Hid (rtrK i = (6, LL)) := by show _ = _; rw [← HE.out]; rfl
  rw [HK.out]
  clear HK
  go_enter Try.func88, Try.ntmps88
  go_wp2
  refine name_world (R := fun W => Code.wp _ _ _ _ W) (P := fun W => Below w.heap.size w W ∧ Row W w.heap.size 24 (icells i) ∧ Row W (w.heap.size + 1) 72 [.int .u8 0, .slice none 0 0]) _ ⟨BX, RI, RR⟩ ?_
  rintro X ⟨hB, hR, hP⟩
  have rX := hR.below (bd X) hR.lt
  have pX := hP.below (bd X) hP.lt
  have bX := bt hB (bd X)
  clear hR hB hP BX RR RI
  refine wp_region_noPanic ?_
  refine wp_region_held_drew (S := fun W => Row W w.heap.size 24 (icells i)) (by kernel_rfl) (rX) (fun hHeld => ?_)
  refine tA 2 ?_
  refine rM [0,3] ?_
  refine cL (fun K hK => ?_) ?_
  · skip
    refine sBS [(0, .const (.int .u16 0))] (n16 [0]) (by rfl) rfl (rb16_1 _) rfl ?_
    intro g0 w0 s0 d0
    replace bX := bt bX d0
    replace rX := rX.below d0 rX.lt
    replace pX := pX.below d0 pX.lt
    try replace s3 := s3.below d0 s3.lt
    clear d0
    refine oK hK (by exact rX) fun hHeld => ?_
    clear hK K
    refine rM [1,3] ?_
    refine cL (fun K hK => ?_) ?_
    · skip
      go_simp
      refine (callsN (put16_n none 0 0 [] (some ⟨g0, 0, none⟩) 1 1 [0] _ (Src.nil _) s0 HB.out (by simp) (by simp))).mono ?_
      rintro e w1 ⟨a1, n1, c1, rfl, o1, d1⟩
      have s1 := own_srcP o1
      replace bX := bt bX d1
      replace rX := rX.below d1 rX.lt
      replace pX := pX.below d1 pX.lt
      try replace s3 := s3.below d1 s3.lt
      clear d1 o1
      refine oK hK (by exact rX) fun hHeld => ?_
      clear hK K
      refine r1 3 fun K hK => ?_
      refine sBS [(0, .tmp 5)] (svcells [⟨some ⟨w.heap.size, 0, none⟩, 8, 8, i.l⟩]) (by rfl) rfl (rbS_1 ⟨some ⟨w.heap.size, 0, none⟩, 8, 8, i.l⟩) rfl ?_
      intro g3 w3 s3 d3
      replace bX := bt bX d3
      replace rX := rX.below d3 rX.lt
      replace pX := pX.below d3 pX.lt
      try replace s0 := s0.below d3 s0.lt
      try replace s1 := s1.below d3 s1.lt
      clear d3
      refine oK hK (by exact rX) fun hHeld => ?_
      clear hK K
      refine r1 4 fun K hK => ?_
      go_simp
      refine (callsN (putb_1 a1 _ c1 _ (some ⟨g3, 0, none⟩) ⟨some ⟨w.heap.size, 0, none⟩, 8, 8, i.l⟩ _ s1 s3 (Row.part (pre := []) (mid := icells i) (post := []) (by simpa using rX) 8 rfl (icells_len i)) (by simp [hw_len]) HI.out)).mono ?_
      rintro e w4 ⟨a4, n4, c4, rfl, o4, d4⟩
      have z4 := bX.size
      replace bX := bt bX d4
      replace rX := rX.below d4 rX.lt
      replace pX := pX.below d4 pX.lt
      replace o4 := own_cast HE.out (own_le o4 z4)
      clear d4
      refine oK hK (by exact rX) fun hHeld => ?_
      clear hK K
      refine tA 5 ?_
      refine r1 6 fun K hK => ?_
      refine sStR (.tmp 2) (.tmp 8) (by rfl) rfl (w.heap.size + 1) (.int .u8 6) (.slice a4 _ c4) _ _ rfl rfl pX rfl rfl ?_
      intro w6 g6 r6
      obtain ⟨z6, o6, b6⟩ := Pcd.of bX g6 pX (Nat.le_succ _) o4
      replace rX := rX.grown g6 (by simp)
      refine oK hK (by exact rX) fun hHeld => ?_
      clear hK K
      refine dN ?_
      refine NoPanic.normal ?_
      go_wp2
      exact bodyPost_ret (retC rfl _ _ 0 rfl (lvR r6.range)) rfl ⟨a4, n4, c4, rfl, o6, b6⟩
    refine cE fun K hK => ?_
    refine sBS [(0, .tmp 5)] (svcells [⟨some ⟨w.heap.size, 0, none⟩, 8, 8, i.l⟩]) (by rfl) rfl (rbS_1 ⟨some ⟨w.heap.size, 0, none⟩, 8, 8, i.l⟩) rfl ?_
    intro g3 w3 s3 d3
    replace bX := bt bX d3
    replace rX := rX.below d3 rX.lt
    replace pX := pX.below d3 pX.lt
    try replace s0 := s0.below d3 s0.lt
    try replace s1 := s1.below d3 s1.lt
    clear d3
    refine oK hK (by exact rX) fun hHeld => ?_
    clear hK K
    refine r1 1 fun K hK => ?_
    go_simp
    refine (callsN (put16_n none 0 0 [] (some ⟨g0, 0, none⟩) 1 1 [0] _ (Src.nil _) s0 HB.out (by simp) (by simp))).mono ?_
    rintro e w1 ⟨a1, n1, c1, rfl, o1, d1⟩
    have s1 := own_srcP o1
    replace bX := bt bX d1
    replace rX := rX.below d1 rX.lt
    replace pX := pX.below d1 pX.lt
    try replace s3 := s3.below d1 s3.lt
    clear d1 o1
    refine oK hK (by exact rX) fun hHeld => ?_
    clear hK K
    refine r1 4 fun K hK => ?_
    go_simp
    refine (callsN (putb_1 a1 _ c1 _ (some ⟨g3, 0, none⟩) ⟨some ⟨w.heap.size, 0, none⟩, 8, 8, i.l⟩ _ s1 s3 (Row.part (pre := []) (mid := icells i) (post := []) (by simpa using rX) 8 rfl (icells_len i)) (by simp [hw_len]) HI.out)).mono ?_
    rintro e w4 ⟨a4, n4, c4, rfl, o4, d4⟩
    have z4 := bX.size
    replace bX := bt bX d4
    replace rX := rX.below d4 rX.lt
    replace pX := pX.below d4 pX.lt
    replace o4 := own_cast HE.out (own_le o4 z4)
    clear d4
    refine oK hK (by exact rX) fun hHeld => ?_
    clear hK K
    refine tA 5 ?_
    refine r1 6 fun K hK => ?_
    refine sStR (.tmp 2) (.tmp 8) (by rfl) rfl (w.heap.size + 1) (.int .u8 6) (.slice a4 _ c4) _ _ rfl rfl pX rfl rfl ?_
    intro w6 g6 r6
    obtain ⟨z6, o6, b6⟩ := Pcd.of bX g6 pX (Nat.le_succ _) o4
    replace rX := rX.grown g6 (by simp)
    refine oK hK (by exact rX) fun hHeld => ?_
    clear hK K
    refine dN ?_
    refine NoPanic.normal ?_
    go_wp2
    exact bodyPost_ret (retC rfl _ _ 0 rfl (lvR r6.range)) rfl ⟨a4, n4, c4, rfl, o6, b6⟩
  refine cE fun K hK => ?_
  refine sBS [(0, .tmp 5)] (svcells [⟨some ⟨w.heap.size, 0, none⟩, 8, 8, i.l⟩]) (by rfl) rfl (rbS_1 ⟨some ⟨w.heap.size, 0, none⟩, 8, 8, i.l⟩) rfl ?_
  intro g3 w3 s3 d3
  replace bX := bt bX d3
  replace rX := rX.below d3 rX.lt
  replace pX := pX.below d3 pX.lt
  try replace s0 := s0.below d3 s0.lt
  try replace s1 := s1.below d3 s1.lt
  clear d3
  refine oK hK (by exact rX) fun hHeld => ?_
  clear hK K
  refine r1 0 fun K hK => ?_
  refine sBS [(0, .const (.int .u16 0))] (n16 [0]) (by rfl) rfl (rb16_1 _) rfl ?_
  intro g0 w0 s0 d0
  replace bX := bt bX d0
  replace rX := rX.below d0 rX.lt
  replace pX := pX.below d0 pX.lt
  try replace s3 := s3.below d0 s3.lt
  clear d0
  refine oK hK (by exact rX) fun hHeld => ?_
  clear hK K
  refine r1 1 fun K hK => ?_
  go_simp
  refine (callsN (put16_n none 0 0 [] (some ⟨g0, 0, none⟩) 1 1 [0] _ (Src.nil _) s0 HB.out (by simp) (by simp))).mono ?_
  rintro e w1 ⟨a1, n1, c1, rfl, o1, d1⟩
  have s1 := own_srcP o1
  replace bX := bt bX d1
  replace rX := rX.below d1 rX.lt
  replace pX := pX.below d1 pX.lt
  try replace s3 := s3.below d1 s3.lt
  clear d1 o1
  refine oK hK (by exact rX) fun hHeld => ?_
  clear hK K
  refine r1 4 fun K hK => ?_
  go_simp
  refine (callsN (putb_1 a1 _ c1 _ (some ⟨g3, 0, none⟩) ⟨some ⟨w.heap.size, 0, none⟩, 8, 8, i.l⟩ _ s1 s3 (Row.part (pre := []) (mid := icells i) (post := []) (by simpa using rX) 8 rfl (icells_len i)) (by simp [hw_len]) HI.out)).mono ?_
  rintro e w4 ⟨a4, n4, c4, rfl, o4, d4⟩
  have z4 := bX.size
  replace bX := bt bX d4
  replace rX := rX.below d4 rX.lt
  replace pX := pX.below d4 pX.lt
  replace o4 := own_cast HE.out (own_le o4 z4)
  clear d4
  refine oK hK (by exact rX) fun hHeld => ?_
  clear hK K
  refine tA 5 ?_
  refine r1 6 fun K hK => ?_
  refine sStR (.tmp 2) (.tmp 8) (by rfl) rfl (w.heap.size + 1) (.int .u8 6) (.slice a4 _ c4) _ _ rfl rfl pX rfl rfl ?_
  intro w6 g6 r6
  obtain ⟨z6, o6, b6⟩ := Pcd.of bX g6 pX (Nat.le_succ _) o4
  replace rX := rX.grown g6 (by simp)
  refine oK hK (by exact rX) fun hHeld => ?_
  clear hK K
  refine dN ?_
  refine NoPanic.normal ?_
  go_wp2
  exact bodyPost_ret (retC rfl _ _ 0 rfl (lvR r6.range)) rfl ⟨a4, n4, c4, rfl, o6, b6⟩
theorem hopPiece_any (x : Ad) (w : World) : Calls Try.prog 89 #[(Value.agg (acells x).toArray)] w (Pcd w (hopK x)) := by
  have RI := (Row.new w 26 (acells x)).alloc (.cells #[.int .u8 0, .slice none 0 0] 72)
  have RR := two_newR w (.cells (acells x).toArray 26) 72 [.int .u8 0, .slice none 0 0]
  have BX := bt (ba w (.cells (acells x).toArray 26)) (ba _ (.cells #[.int .u8 0, .slice none 0 0] 72))
  have HA := kaddress_any x
  obtain ⟨LL, HE0⟩ : ∃ LL, [] ++ List.map UInt8.ofNat [(adrE x).toNat, 0] ++ adrL x = LL := ⟨_, rfl⟩
  have HE : Hid ([] ++ List.map UInt8.ofNat [(adrE x).toNat, 0] ++ adrL x = LL) := HE0
  clear HE0
  have HK : Hid (hopK x = (7, LL)) := by show _ = _; rw [← HE.out]; unfold hopK; simp
  rw [HK.out]
  clear HK
  have HL : Hid ((adrL x).length ≤ 1000) := Nat.le_trans (adrL_len x) (by decide)
  have HX : Hid (∀ z ∈ [(adrE x).toNat, 0], z < 256) := fun z hz => by simp at hz; rcases hz with rfl | rfl; exact (adrE x).toNat_lt; decide
  generalize adrE x = E at *
  generalize adrL x = L at *
  go_enter Try.func89, Try.ntmps89
  go_wp2_with (first
    | (have kk := b3; refine stR (.tmp 2) (.tmp 16) (by rfl) rfl (w.heap.size + 1) (.int .u8 7) (.slice a3 _ c3) _ _ rfl rfl p3 rfl rfl ?_; intro w6 g6 r6)
    | (go_at_call 93; have kk := b2; refine (callsN (putb_1 a2 _ c2 _ (some ⟨w2.heap.size, 0, none⟩) ⟨s, n, c, L⟩ _ (s2.alloc _) (new_src_of w2 #[.slice s n c] 40) (sl2.alloc _) (by simp) HL.out)).mono ?_; rintro e w3 ⟨a3, n3, c3, rfl, o3, b3⟩; have p3 := (p2.alloc (.cells #[.slice s n c] 40)).below b3 (p2.alloc _).lt)
    | (go_at_call 92; have kk := b1; refine (callsN (put8_n none 0 0 [] (some ⟨w1.heap.size, 0, none⟩) 2 2 [E.toNat, 0] _ (Src.nil _) (new_src_of w1 #[.int .u8 (E.toNat : Int), .int .u8 0] 5) HX.out (by simp) (by simp))).mono ?_; rintro e w2 ⟨a2, n2, c2, rfl, o2, b2⟩; have s2 := own_srcP o2; have sl2 := (sl.alloc (.cells #[.int .u8 (E.toNat : Int), .int .u8 0] 5)).below b2 (sl.alloc _).lt; have p2 := (p1.alloc (.cells #[.int .u8 (E.toNat : Int), .int .u8 0] 5)).below b2 (p1.alloc _).lt)
    | (go_at_call 104; refine (HA _).mono ?_; rintro e w1 ⟨s, n, c, rfl, sl, b1⟩; have p1 := RR.below b1 RR.lt)
    | (refine ldA (.tmp 1) (by rfl) rfl w.heap.size 0 x rfl RI.range ?_))
  have B := bt (bt (bt (bt BX b1) (ba _ _)) b2) (ba w2 (.cells #[.slice s n c] 40))
  have B3 := bt B b3
  obtain ⟨z6, o6, b6⟩ := Pcd.of B3 g6 p3 (Nat.le_succ _) (own_cast HE.out (own_le o3 B.size))
  exact bodyPost_ret (retC rfl _ _ 0 rfl (lvR r6.range)) rfl ⟨a3, n3, c3, rfl, o6, b6⟩
theorem piece_any (t : Tl) (w : World) (ht : TSrc w t) (h : TOk t.key) : Calls Try.prog 39 #[.agg (tcells t).toArray] w (Pcd w (pieK t.key)) := by
  have RI := (Row.new w 33 (tcells t)).alloc (.cells #[.int .u8 0, .slice none 0 0] 72)
  have RR := two_newR w (.cells (tcells t).toArray 33) 72 [.int .u8 0, .slice none 0 0]
  have BX := bt (ba w (.cells (tcells t).toArray 33)) (ba _ (.cells #[.int .u8 0, .slice none 0 0] 72))
  have hty : t.ty < 256 := h.fit.ty
  have HY : Hid (((UInt8.ofNat t.ty).toNat : Int) = (t.ty : Int)) := by show _ = _; simp; omega
  have HB : Hid (∀ W, Src W t.sa t.sn t.sc (wcells t.st) → Calls Try.prog 69 #[.agg (tcells t).toArray] W (LaidN W (bodL t.key))) := fun W hW => body_any t W hW h
  have HE : Hid (pieK t.key = (UInt8.ofNat t.ty, bodL t.key)) := (rfl : _ = _)
  rw [HE.out]
  have sT : Src _ t.sa t.sn t.sc (wcells t.st) := (Src.alloc ht (.cells (tcells t).toArray 33)).alloc (.cells #[.int .u8 0, .slice none 0 0] 72)
  clear HE hty h ht
  generalize bodL t.key = L at *
  go_enter Try.func39, Try.ntmps39
  go_wp2
  refine name_world (R := fun W => Code.wp _ _ _ _ W) (P := fun W => Below w.heap.size w W ∧ Row W w.heap.size 33 (tcells t) ∧ Row W (w.heap.size + 1) 72 [.int .u8 0, .slice none 0 0] ∧ Src W t.sa t.sn t.sc (wcells t.st)) _ ⟨BX, RI, RR, sT⟩ ?_
  clear sT
  rintro X ⟨hB, hR, hP, hT⟩
  have rX := hR.below (bd X) hR.lt
  have pX := hP.below (bd X) hP.lt
  have bX := bt hB (bd X)
  have sT := Src.below hT (bd X) (Src.lt hT)
  clear hR hB hP BX RR RI hT
  refine wp_region_noPanic ?_
  refine wp_region_held_drew (S := fun W => Row W w.heap.size 33 (tcells t)) (by kernel_rfl) (rX) (fun hHeld => ?_)
  refine tA 0 ?_
  refine tA 1 ?_ (hv := by intro w hSw; (try dsimp only at hSw); have hm : w.cell? ⟨_, 0, none⟩ = some (.int .u8 (t.ty : Int)) := hSw.cell 0; go_simp <;> with_reducible rfl)
  refine tL 2 rfl (yT t (fun W hW => hW) (by rfl) rfl rfl) ?_
  refine r1 3 fun K hK => ?_
  go_simp
  refine (HB.out _ sT).mono ?_
  rintro e w4 ⟨a4, n4, c4, rfl, o4, d4⟩
  have z4 := bX.size
  replace bX := bt bX d4
  replace rX := rX.below d4 rX.lt
  replace pX := pX.below d4 pX.lt
  replace o4 := own_le o4 z4
  clear d4
  refine oK hK (by exact rX) fun hHeld => ?_
  clear hK K
  refine tA 4 ?_
  refine r1 5 fun K hK => ?_
  refine sStR (.tmp 2) (.tmp 7) (by rfl) rfl (w.heap.size + 1) (.int .u8 (t.ty : Int)) (.slice a4 _ c4) _ _ rfl rfl pX rfl rfl ?_
  intro w6 g6 r6
  obtain ⟨z6, o6, b6⟩ := Pcd.of bX g6 pX (Nat.le_succ _) o4
  replace rX := rX.grown g6 (by simp)
  refine oK hK (by exact rX) fun hHeld => ?_
  clear hK K
  refine dN ?_
  refine NoPanic.normal ?_
  go_wp2
  exact bodyPost_ret (retC rfl _ _ 0 rfl (lvR r6.range)) rfl ⟨a4, n4, c4, by first | rfl | (rw [HY.out]; done) | (rw [HY.out]; rfl), o6, b6⟩
/-- How many bytes pieces have. -/
def lenQ (ps : List Pc) : Nat := (ps.map fun p => 2 + p.n).sum
theorem lenQ_take (ps : List Pc) (j : Nat) (hj : j < ps.length) : lenQ (ps.take (j + 1)) = lenQ (ps.take j) + (2 + ps[j].n) := by
  unfold lenQ
  rw [List.take_succ_eq_append_getElem hj, List.map_append, List.sum_append]; simp
theorem lenQ_le (ps : List Pc) (j : Nat) : lenQ (ps.take j) ≤ lenQ ps := by
  have h : lenQ ps = lenQ (ps.take j) + lenQ (ps.drop j) := by
    unfold lenQ
    rw [← List.sum_append, ← List.map_append, List.take_append_drop]
  omega
theorem length_any (a : Option Addr) (n c : Nat) (ps : List Pc) (w : World) (hs : Rws w a n ps) (hn : n ≤ 140737488355328) (hN : lenQ ps ≤ 140737488355328) :
    Calls Try.prog 38 #[.slice a n c] w fun e w' => e = .returned (.int .i64 (lenQ ps : Int)) ∧ Below w.heap.size w w' := by
  have HN : Hid (n = ps.length) := hs.len.symm
  have HT : Hid (lenQ (ps.take n) = lenQ ps) := by show _ = _; rw [List.take_of_length_le (by have := HN.out; omega)]
  go_enter Try.func38, Try.ntmps38
  go_wp2
  go_loopw [3, 8] (fun v i wr => ∃ (j z : Nat), j ≤ n ∧ i = .int .i64 j ∧ v = .int .i64 (z : Int) ∧ Hid (z = lenQ (ps.take j)) ∧ Below w.heap.size w wr) (fun _ i _ => n - (intOf i).toNat)
  case atStart => exact ⟨0, 0, Nat.zero_le _, rfl, rfl, (rfl : _ = _), Below.refl _ _⟩
  case round =>
    obtain ⟨j, z, hj, rfl, rfl, hz, hb⟩ := hrel
    by_cases hlt : j < n
    · have hjk : j < ps.length := by have := HN.out; omega
      obtain ⟨g, o, rfl, c0, c1⟩ := (hs.below hb).at hjk
      have HZ := lenQ_take ps j hjk
      have HL := lenQ_le ps (j + 1)
      rw [HZ, ← hz.out] at HL
      have HZ' : Hid (lenQ (ps.take (j + 1)) = z + (2 + ps[j].n)) := by show _ = _; rw [HZ, ← hz.out]
      have hb2 := hb.size
      clear HZ
      generalize ps[j].t.toNat = pt at *
      generalize ps[j].a = pa at *
      generalize ps[j].n = pn at *
      generalize ps[j].c = pc at *
      have h1 : (z : Int) + (2 + (pn : Int)) ≤ 140737488355328 := by omega
      go_wp2
      go_roundw
      case rel => exact ⟨j + 1, z + (2 + pn), by omega, by go_num, by go_num, HZ'.out.symm, hb.alloc hb2 _⟩
      case measure => simp [intOf]; omega
    · obtain rfl : n = j := by omega
      go_wp2
      go_ret
      exact ⟨by rw [hz.out, HT.out]; rfl, hb⟩
end Go.Proofs.Ytognnfknbkedgaa

namespace Go.Proofs.Ytognnfknbkedgaa
open Go.RowKit
set_option linter.unusedSimpArgs false
set_option maxRecDepth 20000

def hopc (a : Ad) (b : Bool) : List Value := acells a ++ [.bool b]
def ocells (o : TS) : List Value := icells o.r ++ (hopc o.h4 o.k4 ++ hopc o.h6 o.k6)
theorem hopc_len (a : Ad) (b : Bool) : (hopc a b).length = 17 := by simp [hopc, acells_len]
theorem ocells_len (o : TS) : (ocells o).length = 42 := by simp [ocells, icells_len, hopc_len]
theorem hopc_one (a : Ad) (b : Bool) : ∀ u ∈ hopc a b, u.oneCell' = true := by
  intro u hu
  simp only [hopc, List.mem_append, List.mem_singleton] at hu
  rcases hu with h | rfl
  · exact acells_one _ u h
  · rfl
theorem ocells_one (o : TS) : ∀ u ∈ ocells o, u.oneCell' = true := by
  intro u hu
  simp only [ocells, List.mem_append] at hu
  rcases hu with h | h | h
  · exact icells_one _ u h
  · exact hopc_one _ _ u h
  · exact hopc_one _ _ u h
def zeroO : TS := ⟨zeroI, zeroA, false, zeroA, false⟩
def dcells (o : TS) (room : Int) (a : Option Addr) (n c : Nat) : List Value := ocells o ++ [.int .i64 room, .slice a n c]
theorem infoOz : (Try.prog.info? 81).map (·.zero) = some (some (.agg (ocells zeroO).toArray)) := by kernel_rfl
theorem infoO : (Try.prog.info? 81).map (·.size) = some 42 := by kernel_rfl
theorem infoHz : (Try.prog.info? 78).map (·.zero) = some (some (.agg (hopc zeroA false).toArray)) := by kernel_rfl
theorem infoH : (Try.prog.info? 78).map (·.size) = some 17 := by kernel_rfl
theorem bdD (x : Int) (w : World) : (Instr.build 83 #[(1, .int .i64 x)]).run Try.prog w = .ok (.agg (dcells zeroO x none 0 0).toArray) w := by kernel_rfl
theorem bdH (c : Ad) (w : World) : (Instr.build 78 #[(0, (Value.agg (acells c).toArray)), (1, .bool true)]).run Try.prog w = .ok (.agg (hopc c true).toArray) w := by
  obtain ⟨l, hl⟩ := c
  match l, hl with
  | [b0, b1, b2, b3, b4, b5, b6, b7, b8, b9, b10, b11, b12, b13, b14, b15], _ =>
    show _ = _
    kernel_rfl
section
variable {ops : Array Oper} {rest : List Oper} {op : Oper} {a : Act} {w : World} {Q : Exit → Act → World → Prop} {K : Act → World → Prop} {E : Prop} {S : World → Prop}
theorem ldO (x : Operand) (hw : Region.wanted op (yielded ops a.tmps) = true) (ho : op.op = .load 81 x) (b o : Nat) (c : TS) (hx : a.eval x = .pointer (some ⟨b, o, none⟩)) (hc : w.rangeAt b o (ocells c))
    (h : wpList Try.prog ops Q rest (a.put op.dst (.agg (ocells c).toArray)) w) : wpList Try.prog ops Q (op :: rest) a w :=
  wpList_step fun K hK => by
    rw [if_pos hw]
    exact wp_load_mid _ x ho b o hx (ocells c) _ hc Try.underlying81 rfl (by rw [infoO, ocells_len]) (hK _ _ h)
theorem yO {b o : Nat} {x : Operand} (c : TS) (hS : ∀ w, S w → w.rangeAt b o (ocells c)) (hw : Region.wanted op (yielded ops a.tmps) = true) (ho : op.op = .load 81 x) (hx : a.eval x = .pointer (some ⟨b, o, none⟩)) : YieldsIf Try.prog ops S op (.agg (ocells c).toArray) a :=
  yieldsIf_load_mid hw _ x ho b o hx (ocells c) _ hS Try.underlying81 rfl (by rw [infoO, ocells_len])
theorem wp_stO (x y : Operand) (ho : op.op = .store 81 x y) (b : Nat) (c : TS) {T : TypeId} (ds post : List Value) (hx : a.eval x = .pointer (some ⟨b, 0, none⟩)) (hy : a.eval y = .agg (ocells c).toArray) (hl : ds.length = 42) (hr : Row w b T (ds ++ post))
    (h : ∀ W, w.grownBy W (some b) → Row W b T (ocells c ++ post) → K (a.put op.dst undef) W) : Oper.wp Try.prog op a w K Q := by
  refine wp_store_mid _ x y ho b 0 _ hx hy (by simpa [ocells_len] using hr.there (n := 42) (by rw [List.length_append, hl]; omega)) (by rw [infoO]; simp [ocells_len]) (all_oneCell_toArray (ocells_one c)) (h _ (grownBy_setCells b _ _ _) ?_)
  have := Row.setMid (ocells c) [] ds post w hr (by rw [ocells_len, hl])
  simpa using this
theorem stO (x y : Operand) (hw : Region.wanted op (yielded ops a.tmps) = true) (ho : op.op = .store 81 x y) (b : Nat) (c : TS) {T : TypeId} (ds post : List Value) (hx : a.eval x = .pointer (some ⟨b, 0, none⟩)) (hy : a.eval y = .agg (ocells c).toArray) (hl : ds.length = 42) (hr : Row w b T (ds ++ post))
    (h : ∀ W, w.grownBy W (some b) → Row W b T (ocells c ++ post) → wpList Try.prog ops Q rest (a.put op.dst undef) W) : wpList Try.prog ops Q (op :: rest) a w :=
  wpList_step fun K hK => by
    rw [if_pos hw]
    exact wp_stO x y ho b c ds post hx hy hl hr fun W h1 h2 => hK _ _ (h W h1 h2)
theorem sStO (x y : Operand) (hw : Region.wanted op (yielded ops a.tmps) = true) (ho : op.op = .store 81 x y) (b : Nat) (c : TS) {T : TypeId} (ds post : List Value) (hx : a.eval x = .pointer (some ⟨b, 0, none⟩)) (hy : a.eval y = .agg (ocells c).toArray) (hl : ds.length = 42) (hr : Row w b T (ds ++ post))
    (h : ∀ W, w.grownBy W (some b) → Row W b T (ocells c ++ post) → K (a.put op.dst undef) W) : if Region.wanted op (yielded ops a.tmps) = true then Oper.wp Try.prog op a w K Q else E := by
  rw [if_pos hw]
  exact wp_stO x y ho b c ds post hx hy hl hr h
theorem ldH (x : Operand) (hw : Region.wanted op (yielded ops a.tmps) = true) (ho : op.op = .load 78 x) (b o : Nat) (c : Ad) (k : Bool) (hx : a.eval x = .pointer (some ⟨b, o, none⟩)) (hc : w.rangeAt b o (hopc c k))
    (h : wpList Try.prog ops Q rest (a.put op.dst (.agg (hopc c k).toArray)) w) : wpList Try.prog ops Q (op :: rest) a w :=
  wpList_step fun K hK => by
    rw [if_pos hw]
    exact wp_load_mid _ x ho b o hx (hopc c k) _ hc Try.underlying78 rfl (by rw [infoH, hopc_len]) (hK _ _ h)
theorem yH {b o : Nat} {x : Operand} (c : Ad) (k : Bool) (hS : ∀ w, S w → w.rangeAt b o (hopc c k)) (hw : Region.wanted op (yielded ops a.tmps) = true) (ho : op.op = .load 78 x) (hx : a.eval x = .pointer (some ⟨b, o, none⟩)) : YieldsIf Try.prog ops S op (.agg (hopc c k).toArray) a :=
  yieldsIf_load_mid hw _ x ho b o hx (hopc c k) _ hS Try.underlying78 rfl (by rw [infoH, hopc_len])
theorem wp_stH (x y : Operand) (ho : op.op = .store 78 x y) (b o : Nat) (c : Ad) (k : Bool) {T : TypeId} (pre ds post : List Value) (hp : pre.length = o) (hx : a.eval x = .pointer (some ⟨b, o, none⟩)) (hy : a.eval y = .agg (hopc c k).toArray) (hl : ds.length = 17) (hr : Row w b T (pre ++ (ds ++ post)))
    (h : ∀ W, w.grownBy W (some b) → Row W b T (pre ++ (hopc c k ++ post)) → K (a.put op.dst undef) W) : Oper.wp Try.prog op a w K Q := by
  refine wp_store_mid _ x y ho b o _ hx hy (by simpa [hopc_len] using hr.thereMid (o := o) (n := 17) (by rw [List.length_append, List.length_append, hl, hp]; omega)) (by rw [infoH]; simp [hopc_len]) (all_oneCell_toArray (hopc_one c k)) (h _ (grownBy_setCells b _ _ _) ?_)
  have := Row.setMid (hopc c k) pre ds post w hr (by rw [hopc_len, hl])
  rw [hp] at this
  simpa using this
theorem stH (x y : Operand) (hw : Region.wanted op (yielded ops a.tmps) = true) (ho : op.op = .store 78 x y) (b o : Nat) (c : Ad) (k : Bool) {T : TypeId} (pre ds post : List Value) (hp : pre.length = o) (hx : a.eval x = .pointer (some ⟨b, o, none⟩)) (hy : a.eval y = .agg (hopc c k).toArray) (hl : ds.length = 17) (hr : Row w b T (pre ++ (ds ++ post)))
    (h : ∀ W, w.grownBy W (some b) → Row W b T (pre ++ (hopc c k ++ post)) → wpList Try.prog ops Q rest (a.put op.dst undef) W) : wpList Try.prog ops Q (op :: rest) a w :=
  wpList_step fun K hK => by
    rw [if_pos hw]
    exact wp_stH x y ho b o c k pre ds post hp hx hy hl hr fun W h1 h2 => hK _ _ (h W h1 h2)
theorem sStH (x y : Operand) (hw : Region.wanted op (yielded ops a.tmps) = true) (ho : op.op = .store 78 x y) (b o : Nat) (c : Ad) (k : Bool) {T : TypeId} (pre ds post : List Value) (hp : pre.length = o) (hx : a.eval x = .pointer (some ⟨b, o, none⟩)) (hy : a.eval y = .agg (hopc c k).toArray) (hl : ds.length = 17) (hr : Row w b T (pre ++ (ds ++ post)))
    (h : ∀ W, w.grownBy W (some b) → Row W b T (pre ++ (hopc c k ++ post)) → K (a.put op.dst undef) W) : if Region.wanted op (yielded ops a.tmps) = true then Oper.wp Try.prog op a w K Q else E := by
  rw [if_pos hw]
  exact wp_stH x y ho b o c k pre ds post hp hx hy hl hr h
/-- A store of the router into what was told. -/
theorem stOr (x y : Operand) (hw : Region.wanted op (yielded ops a.tmps) = true) (ho : op.op = .store 24 x y) (b : Nat) (o : TS) (i : Id8) (hx : a.eval x = .pointer (some ⟨b, 0, none⟩)) (hy : a.eval y = .agg (icells i).toArray) (hr : Row w b 81 (ocells o))
    (h : ∀ W, w.grownBy W (some b) → Row W b 81 (ocells { o with r := i }) → wpList Try.prog ops Q rest (a.put op.dst undef) W) : wpList Try.prog ops Q (op :: rest) a w :=
  stI x y hw ho b 0 i hx hy (hr.there (by rw [ocells_len]; omega)) (h _ (grownBy_setCells b _ _ _) (by
    have := Row.setMid (icells i) [] (icells o.r) (hopc o.h4 o.k4 ++ hopc o.h6 o.k6) w hr (by rw [icells_len, icells_len])
    exact this))
/-- Pieces behind pieces, in a region that draws its order; one piece. -/
theorem sAppR (s x : Operand) (hw : Region.wanted op (yielded ops a.tmps) = true)
    (ho : op.op = .call { callee := .builtin .append, args := #[s, x], argTypes := #[66, 66] })
    (base : Nat) (v : Value) (n : Nat) (ps : List Pc) (hs : a.eval s = v) (hown : w.ownsRow base 72 2 v n (rcs ps))
    (ad : Addr) (m c : Nat) (qs : List Pc) (hx : a.eval x = .slice (some ad) m c) (hq : ∀ j u, (rcs qs)[j]? = some u → w.cell? (ad.add j) = some u) (hl : qs.length = m)
    (hbytes : n + m ≤ 4000000000000) (hbase : base ≤ w.heap.size)
    (h : ∀ v' w', w'.ownsRow base 72 2 v' (n + m) (rcs (ps ++ qs)) → w.grownBy w' v.ownBlock → K (a.put op.dst v') w') : if Region.wanted op (yielded ops a.tmps) = true then Oper.wp Try.prog op a w K Q else E := by
  rw [if_pos hw]
  obtain ⟨i0, hi, hz0, hz1, hz2⟩ := info_parts infoR3
  exact wp_append_own w s x 66 ho base 72 i0 (.agg #[.int .u8 0, .slice none 0 0]) 2 32 Try.underlying66 hi hz0 hz1 hz2 rfl (by decide) v n (rcs ps) hs hown ad m c (rcs qs) hx (by rw [rcs_len, hl]) hq (rcs_one qs) (by unfold maxLen; omega) (by omega) hbase (fun v' w' h1 h2 _ => h v' w' (by rw [rcs_append]; exact h1) h2)
end
theorem eqH (d : Nat) (x y : Ad) (b c : Bool) (w : World) : (Op.equalIn (d + 3) 78 (.agg (hopc x b).toArray) (.agg (hopc y c).toArray)).run Try.prog w = .ok (decide (x.l = y.l) && (b == c)) w := by
  have e1 : List.take 16 (hopc x b) = acells x := by simp [hopc, acells_len]
  have e2 : List.take 16 (hopc y c) = acells y := by simp [hopc, acells_len]
  have h1 : (hopc x b)[16]? = some (.bool b) := by simp [hopc, acells_len]
  have h2 : (hopc y c)[16]? = some (.bool c) := by simp [hopc, acells_len]
  have h3 := eqA d x y w
  have he : ∀ w a b, (Op.equalIn (d + 2) 4 (.bool a) (.bool b)).run Try.prog w = .ok (a == b) w := fun w a b => run_equalIn_bool w (d + 1) _ a b Try.underlying4
  have hf : (Try.prog.fieldsOf 78).toList.map (fun f => (f.name, f.type, f.offset)) = [("addr", 26, 0), ("known", 4, 16)] := by kernel_rfl
  rw [run_equalIn_struct w (d + 2) 78 _ _ (by kernel_rfl) (by kernel_rfl)]
  generalize (Try.prog.fieldsOf 78).toList = fs at hf
  obtain ⟨f1, f2, rfl⟩ : ∃ f1 f2, fs = [f1, f2] := two_of (by have := congrArg List.length hf; simpa using this)
  · simp only [List.map_cons, List.map_nil, List.cons.injEq, Prod.mk.injEq, and_true] at hf
    obtain ⟨⟨n1, t1, o1⟩, n2, t2, o2⟩ := hf
    have ha : ∀ w, (isAgg 26).run Try.prog w = .ok true w := fun w => by simp [isAgg, run_underlying Try.underlying26]
    have hb : ∀ w, (isAgg 4).run Try.prog w = .ok false w := fun w => by simp [isAgg, run_underlying Try.underlying4]
    have hs : ∀ w, (sizeOf 26).run Try.prog w = .ok 16 w := fun w => by kernel_rfl
    simp [Op.eqFields, n1, n2, t1, t2, o1, o2, Sem.run_bind, Sem.run_ite, part, ha, hb, hs, Result.andThen_ok, if_true, Nat.zero_add, e1, e2, h3, Sem.run_pure, Bool.false_eq_true, if_false, List.getElem?_toArray, h1, h2, he]
    by_cases hh : x.l = y.l <;> cases b <;> cases c <;> simp [hh]
theorem lvO {w : World} {b o : Nat} {c : TS} (h : w.rangeAt b o (ocells c)) : (loadVar 81 ⟨b, o, none⟩).run Try.prog w = .ok (.agg (ocells c).toArray) w :=
  run_loadVar_mid w b o _ (ocells c) _ h Try.underlying81 rfl (by rw [infoO, ocells_len])
theorem o4_at {w : World} {b : Nat} {o : TS} (h : Row w b 81 (ocells o)) : w.rangeAt b 8 (hopc o.h4 o.k4) := by
  have := rangeAt_right h.range (k := 8) (icells_len _)
  exact rangeAt_left this
theorem o6_at {w : World} {b : Nat} {o : TS} (h : Row w b 81 (ocells o)) : w.rangeAt b 25 (hopc o.h6 o.k6) := by
  have := rangeAt_right h.range (k := 8) (icells_len _)
  exact rangeAt_right this (k := 17) (hopc_len _ _)
end Go.Proofs.Ytognnfknbkedgaa

namespace Go.Proofs.Ytognnfknbkedgaa
open Go.RowKit
set_option linter.unusedSimpArgs false
set_option maxRecDepth 20000
variable {bv : Option Addr}

/-- Where a reading is, and its error; what a number of k bytes is there, and where it is then. -/
structure RS where
  p : Nat
  y : Int
def RS.adv (r : RS) (l : List UInt8) (k : Int) : RS := ⟨r.p + (tkB l r.p r.y k).length, tkE l r.p r.y k⟩
def RS.val (r : RS) (l : List UInt8) (k : Int) : Nat := nv (tkB l r.p r.y k)
def RS.bad (r : RS) : RS := ⟨r.p, if r.y = 0 then 2 else r.y⟩
/-- A reader in that state. -/
def RdS (w : World) (g : Nat) (bv : Option Addr) (l : List UInt8) (r : RS) : Prop := Rd w g bv l r.p r.y
def NowS (w w' : World) (g : Nat) (bv : Option Addr) (l : List UInt8) (r : RS) : Prop := Now w w' g bv l r.p r.y
theorem NowS.rd {w w' : World} {g : Nat} {l : List UInt8} {r : RS} (h : NowS w w' g bv l r) : RdS w' g bv l r := Now.rd h
theorem NowS.grown {w w' : World} {g : Nat} {l : List UInt8} {r : RS} (h : NowS w w' g bv l r) : w.grownBy w' (some g) := Now.grown h
theorem NowS.trans {a b c : World} {g : Nat} {l : List UInt8} {r s : RS} (h : NowS a b g bv l r) (k : NowS b c g bv l s) : NowS a c g bv l s := Now.trans h k
theorem NowS.below {w w' w2 : World} {g : Nat} {l : List UInt8} {r : RS} (h : NowS w w' g bv l r) (hb : Below w'.heap.size w' w2) : NowS w w2 g bv l r := Now.below h hb
theorem RdS.below {w w' : World} {g : Nat} {l : List UInt8} {r : RS} (h : RdS w g bv l r) (hb : Below w.heap.size w w') : RdS w' g bv l r := Rd.below h hb
theorem RdS.now {w : World} {g : Nat} {l : List UInt8} {r : RS} (h : RdS w g bv l r) : NowS w w g bv l r := Rd.now h
theorem RdS.lt {w : World} {g : Nat} {l : List UInt8} {r : RS} (h : RdS w g bv l r) : g < w.heap.size := Rd.lt h
theorem NowS.size {w w' : World} {g : Nat} {l : List UInt8} {r : RS} (h : NowS w w' g bv l r) : w.heap.size ≤ w'.heap.size := h.grown.size
theorem Now.low {w w1 w2 : World} {g B : Nat} {l : List UInt8} {p p0 : Nat} {y y0 : Int} (h0 : Rd w g bv l p0 y0) (h : Now w w1 g bv l p y) (hb : Below B w1 w2) (hB : w.heap.size ≤ B) : Now w w2 g bv l p y := by
  refine ⟨?_, ⟨hb.os.trans h.grown.os, hb.tape.trans h.grown.tape, hb.output.trans h.grown.output, Nat.le_trans h.grown.size hb.size, fun i hi hne => (hb.block i (Nat.lt_of_lt_of_le hi hB)).trans (h.grown.block i hi hne)⟩⟩
  obtain ⟨c, hbk, hc, hs⟩ := h.rd.ex
  refine ⟨h.rd.le, h.rd.big, h.rd.ne, c, (hb.block g (by have := h0.lt; omega)).trans hbk, hc, hs.below hb (fun ad had hne => ?_)⟩
  have hl : l ≠ [] := by rintro rfl; exact hne rfl
  have := h0.blt hl ad had
  omega
theorem NowS.low {w w1 w2 : World} {g B : Nat} {l : List UInt8} {r r0 : RS} (h0 : RdS w g bv l r0) (h : NowS w w1 g bv l r) (hb : Below B w1 w2) (hB : w.heap.size ≤ B) : NowS w w2 g bv l r := Now.low h0 h hb hB
theorem NowS.fresh {w w1 w2 : World} {g B : Nat} {l : List UInt8} {r r0 : RS} (h0 : RdS w g bv l r0) (h : NowS w w1 g bv l r) (hg : w1.grownBy w2 (some B)) (hB : w.heap.size ≤ B) : NowS w w2 g bv l r := Now.fresh h0 h hg hB
theorem Row.nowS {w w' : World} {g B : Nat} {l : List UInt8} {r : RS} {t : TypeId} {cs : List Value} (hr : Row w B t cs) (h : NowS w w' g bv l r) (hne : B ≠ g) : Row w' B t cs := row_now hr h hne
/-- The parser P whose reader is g. -/
structure Pg (w : World) (P g : Nat) : Prop where
  c : w.cell? ⟨P, 11, none⟩ = some (.pointer (some ⟨g, 0, none⟩))
  ne : P ≠ g
theorem Pg.now {w w' : World} {P g : Nat} {l : List UInt8} {r : RS} (h : Pg w P g) (hn : NowS w w' g bv l r) : Pg w' P g := ⟨hn.grown.cell h.c (fun e => h.ne (Option.some.inj e)), h.ne⟩
theorem Pg.lt {w : World} {P g : Nat} (h : Pg w P g) : P < w.heap.size := block_lt_of_cell h.c
theorem Pg.below {w w' : World} {P g : Nat} (h : Pg w P g) (hb : Below w.heap.size w w') : Pg w' P g := ⟨(hb.cell (p := ⟨P, 11, none⟩) h.lt).trans h.c, h.ne⟩
theorem Pg.fresh {w w1 : World} {P g k B : Nat} (h : Pg w P g) (hg : w.grownBy w1 (some k)) (hk : B ≤ k) (hP : P < B) : Pg w1 P g := ⟨hg.cell h.c (fun e => by have : P = k := Option.some.inj e; omega), h.ne⟩

theorem u8_r {w : World} {g : Nat} {l : List UInt8} {r : RS} (h : RdS w g bv l r) : Calls Try.prog 47 #[.pointer (some ⟨g, 0, none⟩)] w fun e w' => e = .returned (.int .u8 (r.val l 1)) ∧ NowS w w' g bv l (r.adv l 1) := u8_any g l r.p r.y w h
theorem u16_r {w : World} {g : Nat} {l : List UInt8} {r : RS} (h : RdS w g bv l r) : Calls Try.prog 48 #[.pointer (some ⟨g, 0, none⟩)] w fun e w' => e = .returned (.int .u16 (r.val l 2)) ∧ NowS w w' g bv l (r.adv l 2) := u16_any g l r.p r.y w h
theorem u32_r {w : World} {g : Nat} {l : List UInt8} {r : RS} (h : RdS w g bv l r) : Calls Try.prog 101 #[.pointer (some ⟨g, 0, none⟩)] w fun e w' => e = .returned (.int .u32 (r.val l 4)) ∧ NowS w w' g bv l (r.adv l 4) := u32_any g l r.p r.y w h
theorem val1_lt (r : RS) (l : List UInt8) : r.val l 1 < 256 := by
  show nv (tkB l r.p r.y 1) < 256
  simpa using nv_lt_of l r.p 1 r.y
theorem well_any {w : World} {P g : Nat} {l : List UInt8} {r : RS} (hp : Pg w P g) (h : RdS w g bv l r) :
    Calls Try.prog 82 #[.pointer (some ⟨P, 0, none⟩)] w fun e w' => e = .returned (.bool (r.y == 0)) ∧ NowS w w' g bv l r := by
  have c := hp.c
  have hW : Calls Try.prog 49 #[.pointer (some ⟨g, 0, none⟩)] w fun e w' => ∃ z, e = .returned (.tuple #[.int .i64 r.y, .int .i64 z]) ∧ Now w w' g bv l r.p r.y := by
    refine (why_any g l r.p r.y w h).mono ?_
    rintro e w' ⟨rfl, hn⟩
    exact ⟨_, rfl, hn⟩
  generalize hy : r.y = y at *
  have HY : Hid (r.y = y) := hy
  clear hy
  go_enter Try.func82, Try.ntmps82
  go_wp2_with (go_at_call 49; refine hW.mono ?_; rintro e w1 ⟨z, rfl, hn1⟩)
  go_ret
  refine ⟨rfl, ?_⟩
  unfold NowS
  rw [HY.out]
  exact hn1
theorem bad_any {w : World} {P g : Nat} {l : List UInt8} {r : RS} (hp : Pg w P g) (h : RdS w g bv l r) :
    Calls Try.prog 83 #[.pointer (some ⟨P, 0, none⟩)] w fun e w' => e = .returned (.tuple #[]) ∧ NowS w w' g bv l r.bad := by
  have c := hp.c
  have hF := fail_any g l r.p r.y 2 w h
  go_enter Try.func83, Try.ntmps83
  go_wp2_with (go_at_call 99; refine hF.mono ?_; rintro e w1 ⟨rfl, hn1⟩)
  go_end0
  exact ⟨rfl, hn1⟩

/-! ### The pieces within -/
def selK (ts : List UInt8) (ks : List (UInt8 × List UInt8)) : List (UInt8 × List UInt8) := ks.filter fun k => decide (1 < k.1.toNat) && knB ts k.1.toNat
def mustK (ts : List UInt8) (k : UInt8 × List UInt8) : Bool := decide (k.1.toNat < 128) || knB ts k.1.toNat
theorem keys_sel (ts : List UInt8) (ps : List Pc) : keys (sel ts ps) = selK ts (keys ps) := by
  unfold keys sel selK
  rw [List.filter_map]
  rfl
theorem must_keys (ts : List UInt8) (ps : List Pc) : ps.all (mustB ts) = (keys ps).all (mustK ts) := by
  unfold keys
  rw [List.all_map]
  rfl
/-- What within tells, and the reading behind it. -/
def wiL (ts l : List UInt8) (r : RS) : List (UInt8 × List UInt8) := if r.y = 0 then selK ts (splL (l.drop r.p)).1 else []
def wiB (ts l : List UInt8) (r : RS) : Bool := if r.y = 0 then (splL (l.drop r.p)).1.all (mustK ts) && ((splL (l.drop r.p)).2 == 0) else false
def wiR (l : List UInt8) (r : RS) : RS := if r.y = 0 then ⟨l.length, 0⟩ else r
/-- What a call that tells pieces leaves: they lie in memory of its own. -/
structure Told (w w' : World) (a : Option Addr) (c : Nat) (ps : List Pc) : Prop where
  own : w'.ownsRow w.heap.size 72 2 (.slice a ps.length c) ps.length (rcs ps)
  bods : Bods w.heap.size w' ps
theorem within_any {w : World} {P g : Nat} {l : List UInt8} {r : RS} (hp : Pg w P g) (h : RdS w g bv l r) (hl : l.length ≤ 100000) (a : Option Addr) (n c : Nat) (ts : List UInt8) (hs : Src w a n c (bcells ts)) (hn : n ≤ 100) (hsg : ∀ ad, a = some ad → ad.block ≠ g) :
    Calls Try.prog 78 #[.pointer (some ⟨P, 0, none⟩), .slice a n c] w fun e w' => ∃ a' c' ps, e = .returned (.tuple #[.slice a' ps.length c', .bool (wiB ts l r)]) ∧ keys ps = wiL ts l r ∧ ps.length ≤ 100000 ∧ Told w w' a' c' ps ∧ NowS w w' g bv l (wiR l r) := by
  have hW := well_any hp h
  by_cases hy : r.y = 0
  · have e1 : wiL ts l r = selK ts (splL (l.drop r.p)).1 := by unfold wiL; rw [if_pos hy]
    have e2 : wiB ts l r = ((splL (l.drop r.p)).1.all (mustK ts) && ((splL (l.drop r.p)).2 == 0)) := by unfold wiB; rw [if_pos hy]
    have e3 : wiR l r = ⟨l.length, 0⟩ := by unfold wiR; rw [if_pos hy]
    have E : Hid (wiL ts l r = selK ts (splL (l.drop r.p)).1 ∧ wiR l r = ⟨l.length, 0⟩) := ⟨e1, e3⟩
    rw [hy] at hW
    have h0 : Rd w g bv l r.p 0 := by have := h; unfold RdS at this; rwa [hy] at this
    have HR : Hid (∀ W, NowS w W g bv l r → Calls Try.prog 52 #[.pointer (some ⟨g, 0, none⟩)] W fun e w' => ∃ m a c, Hid (m = (l.drop r.p).length) ∧ e = .returned (.slice a m c) ∧ Src w' a m c (bcells (l.drop r.p)) ∧ (∀ ad, a = some ad → W.heap.size ≤ ad.block) ∧ NowS W w' g bv l ⟨l.length, 0⟩) := by
      intro W hW
      have h1 : Rd W g bv l r.p 0 := by have := hW.rd; unfold RdS at this; rwa [hy] at this
      refine (hd_rest h1).mono ?_
      rintro e w' ⟨a, c, rfl, k1, k2, k3⟩
      exact ⟨_, a, c, (by show _ = _; simp), rfl, k1, k2, k3⟩
    obtain ⟨b1, B1⟩ : ∃ b, Hid ((splL (l.drop r.p)).1.all (mustK ts) = b) := ⟨_, rfl⟩
    obtain ⟨z1, Z1⟩ : ∃ z, Hid ((splL (l.drop r.p)).2 = z) := ⟨_, rfl⟩
    rw [e2, B1.out, Z1.out]
    have HS : Hid (∀ W a' c' m, Src W a n c (bcells ts) → m = (l.drop r.p).length → Src W a' m c' (bcells (l.drop r.p)) → Calls Try.prog 100 #[.slice a n c, .slice a' m c'] W fun e w' => ∃ a c k ps, Hid (k = ps.length) ∧ keys ps = selK ts (splL (l.drop r.p)).1 ∧ e = .returned (.tuple #[.slice a k c, .bool b1, .int .i64 z1]) ∧ Told W w' a c ps ∧ ps.length ≤ 100000 ∧ Below W.heap.size W w') := by
      intro W a' c' m k1 km k2
      have hld : (l.drop r.p).length ≤ l.length := by simp
      refine (sub_any a n c ts a' m c' (l.drop r.p) W k1 k2 (by omega) (by omega)).mono ?_
      rintro e w' ⟨a2, c2, ps, j1, rfl, j2, j3, j4, j5⟩
      refine ⟨a2, c2, _, sel ts ps, (rfl : _ = _), by rw [keys_sel, j1], ?_, ⟨j2, fun p hp => j3 p ((List.mem_filter.1 hp).1)⟩, by have := sel_le ts ps; omega, j5⟩
      rw [must_keys, j1, B1.out, Z1.out]
    have HG : Hid (∀ ad, a = some ad → ad.block ≠ g) := hsg
    clear e1 e2 e3 B1 Z1 h0 hsg
    have c0 := hp.c
    go_enter Try.func78, Try.ntmps78
    go_wp2_with (first
      | (go_at_call 100; have kk := hn2; refine (HS.out _ _ _ _ s3 hm.out s2).mono ?_; rintro e w3 ⟨a3, c3, k3, ps, hk3, kps, rfl, told, hps, b3⟩)
      | (go_at_call 52; have kk := hn1; refine (HR.out _ hn1).mono ?_; rintro e w2 ⟨m, a2, c2, hm, rfl, s2, g2, hn2⟩; have s3 : Src w2 a n c (bcells ts) := (hs.grown (grownBy_trans hn1.grown hn2.grown) (fun ad had _ e => HG.out ad had (Option.some.inj e))))
      | (go_at_call 82; refine hW.mono ?_; rintro e w1 ⟨rfl, hn1⟩; have c1 := (hp.now hn1).c))
    all_goals
      go_ret2
      have ek := hk3.out
      subst ek
      refine ⟨a3, c3, ps, by simp_all, by rw [E.out.1]; exact kps, hps, ⟨own_le told.own (Nat.le_trans hn1.size hn2.size), fun p hp => own_le (told.bods p hp) (Nat.le_trans hn1.size hn2.size)⟩, by rw [E.out.2]; exact (hn1.trans hn2).below b3⟩
  · have e1 : wiL ts l r = [] := by unfold wiL; rw [if_neg hy]
    have e2 : wiB ts l r = false := by unfold wiB; rw [if_neg hy]
    have e3 : wiR l r = r := by unfold wiR; rw [if_neg hy]
    rw [e1, e2, e3]
    have hy' : (r.y == 0) = false := by simpa using hy
    rw [hy'] at hW
    clear hy hy' e1 e2 e3
    go_enter Try.func78, Try.ntmps78
    go_wp2_with (go_at_call 82; refine hW.mono ?_; rintro e w1 ⟨rfl, hn1⟩)
    go_ret2
    exact ⟨none, 0, [], rfl, rfl, by decide, ⟨World.ownsRow_nil _ _ _ _, fun _ h => by cases h⟩, hn1⟩
end Go.Proofs.Ytognnfknbkedgaa
