/-
  The document's front, of a Tlv that needs a router and a next hop.
-/
import Derived.Test.YtdibjgcokebfbaaGreatM26
namespace Go.Proofs.YtdibjgcokebfbaaGreat
open Go.RowKit
set_option linter.unusedSimpArgs false
set_option maxRecDepth 20000
theorem way_id {k : TK} (h : chkT k = 0) (hw : wayB k = true) : k.id.l ≠ zeroI.l := by
  obtain ⟨_, _, h3, _⟩ := chkT_zero h
  unfold wayB at hw
  simp only [Bool.and_eq_true, decide_eq_true_eq] at hw
  unfold fitB at h3
  rw [if_neg (by omega), if_neg (by omega), if_pos hw.1] at h3
  unfold fitU at h3
  split at h3
  · cases h3
  · rw [if_neg (by omega)] at h3
    unfold nobB at h3
    intro e
    rw [decide_eq_true e] at h3
    simp at h3
theorem rtrP_yes (o : TS) (k : TK) (h : o.r.l = k.id.l) : (rtrP o k).flatMap encK = [] ∧ rtrS o k = o := by
  refine ⟨by unfold rtrP; rw [if_pos (by simpa using h)]; rfl, ?_⟩
  unfold rtrS
  have : k.id = o.r := Id8.ext h.symm
  rw [this]
theorem rtrP_no (o : TS) (k : TK) (h : ¬ o.r.l = k.id.l) : (rtrP o k).flatMap encK = inL 6 ([0, 0] ++ k.id.l) := by
  unfold rtrP
  rw [if_neg (by simpa using h)]
  simp [encK, rtrK, inL]
theorem loop8 (j : Nat) (h : j < 8) : ((j : Int) < 8) ∧ wrap64 ((j : Int) + 1) = (j : Int) + 1 ∧ (j + 1 ≤ 8 ∧ 2 + j + 1 ≤ 140737488355328 ∧ 8 - ((j : Int) + 1).toNat < 8 - ((j : Int)).toNat) := by
  refine ⟨by omega, w64q j h, by omega, by omega, by omega⟩
theorem id_at (i : Id8) (j : Nat) (h : j < 8) : ∃ bb, i.l[j]? = some bb ∧ bcells ([0, 0] ++ i.l.take (j + 1)) = bcells ([0, 0] ++ i.l.take j) ++ [.int .u8 (bb.toNat : Int)] := by
  have h8 : j < i.l.length := by rw [i.len]; exact h
  refine ⟨i.l[j], List.getElem?_eq_getElem h8, ?_⟩
  rw [List.take_succ_eq_append_getElem h8, ← List.append_assoc, bcells_append]
  rfl
/-- Behind the router's piece. -/
structure Fr1 (w : World) (t : Tl) (g5 g6 : Nat) (o : TS) (k : Bool) (L : List UInt8) (a : Option Addr) (n c : Nat) (W : World) : Prop where
  own : W.ownsRow w.heap.size 5 1 (.slice a n c) n (bcells L)
  rt : Row W w.heap.size 45 (tcells t)
  r5 : Row W g5 121 (scells zeroO false)
  r6 : Row W g6 121 (scells o k)
  b : Below w.heap.size w W
theorem Fr1.drew {w : World} {t : Tl} {g5 g6 : Nat} {o : TS} {k : Bool} {L : List UInt8} {a : Option Addr} {n c : Nat} {W : World} (h : Fr1 w t g5 g6 o k L a n c W) : Fr1 w t g5 g6 o k L a n c W.drew :=
  ⟨own_bq h.own (Below.refl _ _).drew, h.rt, h.r5, h.r6, h.b.drew⟩
theorem Fr1.below {w : World} {t : Tl} {g5 g6 : Nat} {o : TS} {k : Bool} {L : List UInt8} {a : Option Addr} {n c : Nat} {W W' : World} (h : Fr1 w t g5 g6 o k L a n c W) (b : Below W.heap.size W W') : Fr1 w t g5 g6 o k L a n c W' :=
  ⟨own_bq h.own b, h.rt.below b h.rt.lt, h.r5.below b h.r5.lt, h.r6.below b h.r6.lt, h.b.trans (b.mono h.b.size)⟩
theorem own_oth {W W' : World} {B g n : Nat} {T : TypeId} {cs : List Value} {v : Value} {l : List UInt8} (h : W.ownsRow B 5 1 v n (bcells l)) (r : Row W g T cs) (hg : W.grownBy W' (some g)) (hT : T ≠ 5 := by decide) : W'.ownsRow B 5 1 v n (bcells l) :=
  h.kept hg (.inr fun e => own_ne h r hT e.symm)
theorem Fr1.st {w : World} {t : Tl} {g5 g6 : Nat} {o o' : TS} {k k' : Bool} {L : List UInt8} {a : Option Addr} {n c : Nat} {W W' : World} (h : Fr1 w t g5 g6 o k L a n c W) (r : Row W' g6 121 (scells o' k')) (hg : W.grownBy W' (some g6)) (h5 : g5 < g6) (h0 : w.heap.size < g6) : Fr1 w t g5 g6 o' k' L a n c W' :=
  ⟨own_oth h.own h.r6 hg, h.rt.grown hg (by simp; omega), h.r5.grown hg (by simp; omega), r, h.b.grown hg h.b.size (fun q hq => by cases hq; omega)⟩
theorem rtrP_len (o : TS) (k : TK) : ((rtrP o k).flatMap encK).length ≤ 12 := by
  unfold rtrP
  split
  · simp
  · simp [encK, rtrK, k.id.len]
theorem hop_n3 (a : Ad) (pn : Nat) (h : pn = (adrL a).length) : 2 + pn ≤ 140737488355328 := by have := adrL_len a; omega
theorem hop_n4 (a : Ad) (pn : Nat) (h : pn = (adrL a).length) : 2 + pn ≤ 255 := by have := adrL_len a; omega
theorem hop_n7 (a : Ad) (L : List UInt8) (n1 n5 : Nat) (hL : L.length ≤ 12) (h1 : (bcells L).length = n1 * 1) (h5 : (bcells (inL 7 ([adrE a, 0] ++ adrL a))).length = n5 * 1) : n1 + n5 ≤ 140737488355328 := by
  have := adrL_len a
  rw [bcells_length] at h1 h5
  simp [inL] at h5
  omega
/-- What becomes of the next hop, by whether it is told. -/
def HopOk (o : TS) (k : TK) (kx : Bool) (hx : Ad) (o' : TS) : Prop :=
  ((kx && decide (hx.l = k.ad.l)) = true → (hopP o k).flatMap encK = [] ∧ hopS o k = o) ∧
  ((kx && decide (hx.l = k.ad.l)) = false → (hopP o k).flatMap encK = inL 7 ([adrE k.ad, 0] ++ adrL k.ad) ∧ hopS o k = o')
theorem hopK_enc (a : Ad) : [hopK a].flatMap encK = inL 7 ([adrE a, 0] ++ adrL a) := by simp [encK, hopK, inL]
theorem hop_ok4 (o : TS) (k : TK) (h : famP k.pr.d = 4) : HopOk o k o.k4 o.h4 { o with h4 := k.ad, k4 := true } := by
  constructor
  · intro e
    have e' := e
    rw [Bool.and_eq_true, decide_eq_true_eq] at e
    refine ⟨by unfold hopP hasB; rw [if_pos h, Bool.and_comm, e', if_pos rfl]; rfl, ?_⟩
    unfold hopS
    rw [if_pos h]
    obtain ⟨r, h4, k4, h6, k6⟩ := o
    dsimp only at e ⊢
    rw [e.1, Ad.ext e.2.symm]
  · intro e
    refine ⟨by unfold hopP hasB; rw [if_pos h, Bool.and_comm, e, if_neg (by simp)]; exact hopK_enc _, ?_⟩
    unfold hopS
    rw [if_pos h]
theorem hop_ok6 (o : TS) (k : TK) (h : ¬ famP k.pr.d = 4) : HopOk o k o.k6 o.h6 { o with h6 := k.ad, k6 := true } := by
  constructor
  · intro e
    have e' := e
    rw [Bool.and_eq_true, decide_eq_true_eq] at e
    refine ⟨by unfold hopP hasB; rw [if_neg h, Bool.and_comm, e', if_pos rfl]; rfl, ?_⟩
    unfold hopS
    rw [if_neg h]
    obtain ⟨r, h4, k4, h6, k6⟩ := o
    dsimp only at e ⊢
    rw [e.1, Ad.ext e.2.symm]
  · intro e
    refine ⟨by unfold hopP hasB; rw [if_neg h, Bool.and_comm, e, if_neg (by simp)]; exact hopK_enc _, ?_⟩
    unfold hopS
    rw [if_neg h]
set_option maxHeartbeats 16000000 in
theorem rfront_way (p : Nat) (o : TS) (k : Bool) (a : Option Addr) (n c : Nat) (l : List UInt8) (g : Nat) (t : Tl) (w : World) (hO : Opn w p o k a n c l g) (hw : wayB t.key = true) (hc : chkT t.key = 0) (hfam : famA t.ad = famP t.pr.d) : Calls Tryz.prog 55 #[.pointer (some ⟨p, 0, none⟩), .agg (tcells t).toArray] w (Fronted w ((rtrP o t.key ++ hopP (rtrS o t.key) t.key).flatMap encK) (hopS (rtrS o t.key) t.key) true) := by
  have RT := Row.new w 45 (tcells t)
  have hp := hO.row.lt
  have hg := hO.st.lt
  have BT := ba w (.cells (tcells t).toArray 45)
  have HD : Hid (∀ W, Below w.heap.size w W → W.cell? ⟨p, 1, none⟩ = some (.pointer (some ⟨g, 0, none⟩)) ∧ Row W g 121 (scells o k)) := fun W h => ⟨((hO.row.below h hp).cell 1).trans rfl, hO.st.below h hg⟩
  have T0 : (tcells t)[0]? = some (.int .u8 (t.ty : Int)) := rfl
  have T5 : (tcells t)[5]? = some (.int .u16 (t.met : Int)) := rfl
  have hway : t.ty = 8 ∧ t.met < 65535 := by
    have : wayB t.key = (decide (t.ty = 8) && decide (t.met < 65535)) := rfl
    rw [this] at hw
    simpa using hw
  have h8 : ((t.ty : Int) != 8) = false := by rw [hway.1]; rfl
  have h9 : ((t.met : Int) == 65535) = false := by have := hway.2; simp; omega
  have HN : Hid (k = false → ¬ o.r.l = t.id.l) := fun h e => way_id hc hw (by show t.id.l = _; rw [← e, hO.no h])
  have HP1 : Hid (o.r.l = t.id.l → (rtrP o t.key).flatMap encK = [] ∧ rtrS o t.key = o) := fun h => rtrP_yes o t.key h
  have HP2 : Hid (¬ o.r.l = t.id.l → (rtrP o t.key).flatMap encK = inL 6 ([0, 0] ++ t.id.l)) := fun h => rtrP_no o t.key h
  have HP3 : Hid (rtrS o t.key = { o with r := t.id }) := rfl
  rw [List.flatMap_append]
  have HL1 : Hid (((rtrP o t.key).flatMap encK).length ≤ 12) := rtrP_len o t.key
  generalize (rtrP o t.key).flatMap encK = L1 at *
  generalize rtrS o t.key = O1 at *
  clear hO hw hway hc
  generalize (t.ty : Int) = y at *
  generalize (t.met : Int) = m at *
  have st0 := True.intro
  have hid := t.id.len
  go_enter Tryz.func55, Tryz.ntmps55
  go_upto_region 5 with (first
    | (have kk := st2; refine stS (.tmp 6) (.tmp 18) (by rfl) rfl g6 o zeroO k false rfl rfl r6 ?_; intro W7 g7 r7; clear kk st2; replace r5 := r5.grown g7 (by simp; omega); replace RT := RT.grown g7 (by simp; omega); replace BT := BT.grown g7 BT.size (fun q hq => by cases hq; omega); have c0 := (RT.cell 0).trans T0; have c5 := (RT.cell 5).trans T5)
    | (have kk := st1; refine ldS (.tmp 17) (by rfl) rfl g o k rfl (HD.out _ BT).2 ?_)
    | (have kk := st1; refine alG infoSz (by rfl) rfl ?_; intro g6 W6 l6 l6' b6 r6; clear kk st1; have st2 := True.intro; replace r5 := r5.below b6 r5.lt; replace RT := RT.below b6 RT.lt; have hq6 : w.heap.size ≤ g6 := Nat.le_trans BT.size l6; have hq65 : g5 < g6 := (by omega); have hq60 : w.heap.size < g6 := (by omega); replace BT := bt BT b6)
    | (have kk := st0; refine alG infoSz (by rfl) rfl ?_; intro g5 W5 l5 l5' b5 r5; clear kk st0; have st1 := True.intro; replace RT := RT.below b5 RT.lt; have hq5 : w.heap.size < g5 := (by simp at l5; omega); replace BT := bt BT b5; have cP := (HD.out _ BT).1))
  refine name_world (R := fun W => Code.wp _ _ _ _ W) (P := fun W => Row W g6 121 (scells o k) ∧ Row W g5 121 (scells zeroO false) ∧ Row W w.heap.size 45 (tcells t) ∧ Below w.heap.size w W) _ ⟨r7, r5, RT, BT⟩ ?_
  clear r7 r5 RT BT c0 c5 T0 T5 h8 h9 cP r6 b6 b5 g7 W7 l6 l6' W6 l5 l5' W5
  rintro V ⟨r6, r5, RT, BV⟩
  have z8 := (r6.cell 8).trans (sc8 o k)
  have hIe := eqI 9998 o.r t.id
  go_cut [37] (fun v W => v = .bool (!(k && decide (o.r.l = t.id.l))) ∧ W = V)
  case first =>
    cases k
    · go_wp2_with fail
      go_meet
      case rel => exact ⟨rfl, rfl⟩
    · by_cases e : o.r.l = t.id.l
      · rw [decide_eq_true e] at hIe
        go_wp2_with (first
          | (refine ldI (.tmp 32) (by rfl) rfl g6 0 o.r rfl r6.sId ?_)
          | (refine ldI (.tmp 34) (by rfl) rfl w.heap.size 9 t.id rfl RT.rId ?_))
        go_meet
        case rel => exact ⟨by simp [e], rfl⟩
      · rw [decide_eq_false e] at hIe
        go_wp2_with (first
          | (refine ldI (.tmp 32) (by rfl) rfl g6 0 o.r rfl r6.sId ?_)
          | (refine ldI (.tmp 34) (by rfl) rfl w.heap.size 9 t.id rfl RT.rId ?_))
        go_meet
        case rel => exact ⟨by simp [e], rfl⟩
  case rest =>
    obtain ⟨rfl, rfl⟩ := hcut
    clear z8 hIe
    go_upto_if 37 with fail
    go_cut [7] (fun v W => ∃ a1 n1 c1, v = .slice a1 n1 c1 ∧ Fr1 w t g5 g6 O1 true L1 a1 n1 c1 W)
    case first =>
      by_cases e : o.r.l = t.id.l
      · obtain rfl : k = true := by cases k <;> first | rfl | exact absurd e (HN.out rfl)
        obtain ⟨rfl, rfl⟩ := HP1.out e
        rw [decide_eq_true e]
        go_wp2_with fail
        go_meet
        case rel => exact ⟨none, 0, 0, rfl, World.ownsRow_nil _ _ _ _, RT, r5, r6, BV⟩
      · have eL := HP2.out e
        have eO := HP3.out
        subst eL eO
        clear HP1 HP2 HP3 HN HD
        rw [decide_eq_false e, Bool.and_false, Bool.not_false]
        have s0 := True.intro
        go_wp2_with (first
          | (have kk := s1; refine stB (.tmp 41) (.const (.bool true)) (by rfl) rfl g6 8 _ true rfl rfl r6 (by rw [scells_len]; omega) ?_; intro V3 g3 q3; rw [ss8] at q3; clear kk s1; have s2 := True.intro; replace r5 := r5.grown g3 (by simp; omega); replace RT := RT.grown g3 (by simp; omega); replace BV := BV.grown g3 BV.size (fun q hq => by cases hq; omega); clear g3 r6)
          | (have kk := s0; refine stI (.tmp 40) (.tmp 39) (by rfl) rfl g6 0 t.id rfl rfl (r6.thereMid (by rw [scells_len]; omega)) ?_; have r6' := r6.tId' t.id; have g2 := grownBy_setCells g6 (icells t.id) 0 wc; replace r5 := r5.grown g2 (by simp; omega); replace RT := RT.grown g2 (by simp; omega); replace BV := BV.grown g2 BV.size (fun q hq => by cases hq; omega); refine name_world (R := fun W => wpList _ _ _ _ _ W) (P := fun W => Row W g6 121 (scells { o with r := t.id } k) ∧ Row W g5 121 (scells zeroO false) ∧ Row W w.heap.size 45 (tcells t) ∧ Below w.heap.size w W) _ ⟨r6', r5, RT, BV⟩ ?_; clear kk s0 r6 r6' r5 RT BV g2; rintro V2 ⟨r6, r5, RT, BV⟩; have s1 := True.intro)
          | (refine ldI (.tmp 38) (by rfl) rfl w.heap.size 9 t.id rfl RT.rId ?_))
        have hV3 := BV.size
        have hlw := RT.lt
        have HC : Hid (∀ W, Below V3.heap.size V3 W → W.rangeAt w.heap.size 9 (icells t.id)) := fun W h => (RT.below h hlw).rId
        have o3 := own_row (n := 2) (Row.new V3 5 [.int .u8 0, .int .u8 0]) rfl (by decide) (Nat.le_refl _)
        go_loopw [8, 9] (fun u i wr => ∃ j : Nat, j ≤ 8 ∧ i = .int .i64 j ∧ wr.ownsRow V3.heap.size 5 1 u (2 + j) (bcells ([0, 0] ++ t.id.l.take j)) ∧ Below V3.heap.size V3 wr) (fun _ i _ => 8 - (intOf i).toNat)
        case atStart => exact ⟨0, Nat.zero_le _, rfl, o3, ba _ _⟩
        case round =>
          obtain ⟨j, hj, rfl, h1, hb⟩ := hrel
          by_cases hlt : j < 8
          · obtain ⟨bb, hbb, HT0⟩ := id_at t.id j hlt
            have hc := HC.out _ hb j _ (bcells_get hbb)
            have HT : Hid (bcells ([0, 0] ++ t.id.l.take (j + 1)) = bcells ([0, 0] ++ t.id.l.take j) ++ [.int .u8 (bb.toNat : Int)]) := HT0
            obtain ⟨hj1, hwj, HJ0⟩ := loop8 j hlt
            have HJ : Hid (j + 1 ≤ 8 ∧ 2 + j + 1 ≤ 140737488355328 ∧ 8 - ((j : Int) + 1).toNat < 8 - ((j : Int)).toNat) := HJ0
            clear HT0 HJ0
            have hzw : V3.heap.size ≤ (wr.alloc (.cells #[.int .u8 (bb.toNat : Int)] 5)).heap.size := Nat.le_trans hb.size (by rw [World.size_alloc]; exact Nat.le_succ _)
            have hbn := bb.toNat_lt
            have HH1 : Hid (∀ x, ((2 : Nat) + j) = x → True) := fun _ _ => trivial
            have hsrc := new_src wr #[.int .u8 (bb.toNat : Int)]
            have h1a := h1.alloc (.cells #[.int .u8 (bb.toNat : Int)] 5)
            have hj0 : (0 : Int) ≤ (j : Int) := Int.natCast_nonneg j
            clear hbb hlt hj o3 hfam hp hg hq5 hq6 hq65 hq60 hV3 hlw hid e RT r5 q3 BV HC hbn HH1
            go_wp2_with (at_builtin; refine append_src rfl (.tmp 47) (.tmp 52) rfl V3.heap.size _ (2 + j) _ rfl h1a (some ⟨wr.heap.size, 0, none⟩) 1 1 [.int .u8 (bb.toNat : Int)] rfl hsrc (by intro u hu; simp at hu; subst hu; rfl) HJ.out.2.1 hzw ?_; intro v7 w7 o7 g7 _)
            exact ⟨⟨j + 1, HJ.out.1, by simp, by rw [HT.out]; exact o7, (hb.alloc hb.size _).grown g7 hzw (ownBlock_ge h1)⟩, HJ.out.2.2⟩
          · have hj8 : j = 8 := Nat.le_antisymm hj (Nat.le_of_not_lt hlt)
            subst hj8
            rw [List.take_of_length_le (Nat.le_of_eq hid)] at h1
            have hnj : ¬ ((8 : Nat) : Int) < 8 := by decide
            clear hlt hj o3
            obtain ⟨a4, c4, rfl⟩ := own_shape h1
            obtain ⟨_, _, e4, s4, _⟩ := Src.ofOwn h1
            cases e4
            go_wp2_with (first
              | (have kk := o5; at_builtin; refine append_src rfl (.tmp 54) (.tmp 57) rfl w.heap.size (.slice none 0 0) 0 [] rfl (World.ownsRow_nil _ _ _ _) a5 n5 c5 (bcells (inL 6 ([0, 0] ++ t.id.l))) rfl s5 (bcells_one _) hn5 (Nat.le_trans hV3 b5'.size) ?_; intro v6 w6 o6 g6' _)
              | (go_at_call 36; refine (rjoin7_any 6 (by decide) a4 _ c4 ([0, 0] ++ t.id.l) _ s4 (by decide)).mono ?_; rintro e w5 ⟨a5, n5, c5, rfl, o5, b5⟩; obtain ⟨_, _, e5, s5, _⟩ := Src.ofOwn o5; cases e5; have hn5 : 0 + n5 ≤ 140737488355328 := (by have h := o5.1; rw [bcells_length] at h; simp [inL, hid] at h; omega); have b5' : Below V3.heap.size V3 w5 := hb.trans (b5.mono hb.size)))
            go_meet
            case rel =>
              obtain ⟨a6, c6, rfl⟩ := own_shape o6
              have b6 : Below V3.heap.size V3 w6 := b5'.grown g6' b5'.size (fun q hq => by cases hq)
              rw [List.nil_append] at o6
              exact ⟨a6, _, c6, rfl, o6, RT.below b6 hlw, r5.below b6 r5.lt, q3.below b6 q3.lt, BV.trans (b6.mono hV3)⟩
    case rest =>
      obtain ⟨a1, n1, c1, rfl, F1⟩ := hcut
      clear r6 r5 RT BV HP1 HP2 HP3 HN HD
      have HF := rfamily_any t.ad
      have HA := raddr7_any t.ad
      have hL1 := F1.own.1
      have hN3f := fun pn h => hop_n3 t.ad pn h
      have hN4f := fun pn h => hop_n4 t.ad pn h
      have hN7f := fun n5 h => hop_n7 t.ad L1 n1 n5 HL1.out F1.own.1 h
      clear hL1
      have HQ4 : Hid (famA t.ad = 4 → HopOk O1 t.key O1.k4 O1.h4 { O1 with h4 := t.ad, k4 := true }) := fun h => hop_ok4 O1 t.key (hfam.symm.trans h)
      have HQ6 : Hid (¬ famA t.ad = 4 → HopOk O1 t.key O1.k6 O1.h6 { O1 with h6 := t.ad, k6 := true }) := fun h => hop_ok6 O1 t.key (fun e => h (hfam.trans e))
      clear hfam
      generalize famA t.ad = f at *
      have hxy : ∃ x y, adrE t.ad = x ∧ adrL t.ad = y := ⟨_, _, rfl, rfl⟩
      obtain ⟨x, y, hx, hy⟩ := hxy
      have HX : Hid (adrE t.key.ad = x ∧ adrL t.key.ad = y) := ⟨hx, hy⟩
      rw [hx, hy] at HA
      rw [hx, hy] at hN7f
      rw [hy] at hN3f hN4f
      clear hx hy
      by_cases h4 : f = 4
      · have hf4 : (f == 4) = true := by rw [h4]; rfl
        go_upto_region 17 with (first
          | (go_at_call 52; refine (HF _).mono ?_; rintro e w2 ⟨rfl, b2⟩; replace F1 := F1.below b2)
          | (refine ldA (.tmp 59) (by rfl) rfl w.heap.size 17 t.ad rfl F1.rt.rAd ?_))
        have hAe := eqA 9998 O1.h4 t.ad
        go_cut [76] (fun v W => v = .bool (!(O1.k4 && decide (O1.h4.l = t.ad.l))) ∧ Fr1 w t g5 g6 O1 true L1 a1 n1 c1 W)
        case first =>
          cases hk : O1.k4
          · skip
            refine wp_region_noPanic ?_
            refine wp_region_held_drew (S := fun W => Fr1 w t g5 g6 O1 true L1 a1 n1 c1 W) (by kernel_rfl) (F1.drew) (fun hHeld => ?_)
            refine tA 0 ?_
            refine tA 1 ?_
            refine tA 2 ?_
            refine tA 3 ?_ (hv := by intro w hSw; (try dsimp only at hSw); have hz := (hSw.r6.cell 58).trans (sc58 O1 true); rw [hk] at hz; go_simp <;> with_reducible rfl)
            refine tA 4 ?_
            refine tA 5 ?_
            refine tN 6 ?_
            refine tN 7 ?_
            refine tN 8 ?_
            refine tN 9 ?_
            refine tN 10 ?_
            refine tN 11 ?_
            refine tN 12 ?_
            refine tA 13 ?_
            refine dN ?_
            refine NoPanic.normal ?_
            go_wp2_with fail
            go_meet
            case rel => exact ⟨by rw [hk]; rfl, hHeld⟩
          · by_cases e : O1.h4.l = t.ad.l
            · rw [decide_eq_true e] at hAe
              refine wp_region_noPanic ?_
              refine wp_region_held_drew (S := fun W => Fr1 w t g5 g6 O1 true L1 a1 n1 c1 W) (by kernel_rfl) (F1.drew) (fun hHeld => ?_)
              refine tA 0 ?_
              refine tA 1 ?_
              refine tA 2 ?_
              refine tA 3 ?_ (hv := by intro w hSw; (try dsimp only at hSw); have hz := (hSw.r6.cell 58).trans (sc58 O1 true); rw [hk] at hz; go_simp <;> with_reducible rfl)
              refine tA 4 ?_
              refine tA 5 ?_
              refine tA 6 ?_
              refine tA 7 ?_
              refine tA 8 ?_
              refine tL 9 rfl (yA O1.h4 (fun w h => h.r6.s4) (by rfl) rfl rfl) ?_
              refine tA 10 ?_
              refine tL 11 rfl (yA t.ad (fun w h => h.rt.rAd) (by rfl) rfl rfl) ?_
              refine tA 12 ?_
              refine tA 13 ?_
              refine dN ?_
              refine NoPanic.normal ?_
              go_wp2_with fail
              go_meet
              case rel => exact ⟨by rw [hk]; simp [e], hHeld⟩
            · rw [decide_eq_false e] at hAe
              refine wp_region_noPanic ?_
              refine wp_region_held_drew (S := fun W => Fr1 w t g5 g6 O1 true L1 a1 n1 c1 W) (by kernel_rfl) (F1.drew) (fun hHeld => ?_)
              refine tA 0 ?_
              refine tA 1 ?_
              refine tA 2 ?_
              refine tA 3 ?_ (hv := by intro w hSw; (try dsimp only at hSw); have hz := (hSw.r6.cell 58).trans (sc58 O1 true); rw [hk] at hz; go_simp <;> with_reducible rfl)
              refine tA 4 ?_
              refine tA 5 ?_
              refine tA 6 ?_
              refine tA 7 ?_
              refine tA 8 ?_
              refine tL 9 rfl (yA O1.h4 (fun w h => h.r6.s4) (by rfl) rfl rfl) ?_
              refine tA 10 ?_
              refine tL 11 rfl (yA t.ad (fun w h => h.rt.rAd) (by rfl) rfl rfl) ?_
              refine tA 12 ?_
              refine tA 13 ?_
              refine dN ?_
              refine NoPanic.normal ?_
              go_wp2_with fail
              go_meet
              case rel => exact ⟨by rw [hk]; simp [e], hHeld⟩
        case rest =>
          obtain ⟨rfl, F2⟩ := hcut
          clear hAe F1
          go_upto_if 76 with fail
          have HH := HQ4.out h4
          clear HQ4 HQ6
          go_cut [7] (fun v W => ∃ a2 n2 c2, v = .slice a2 n2 c2 ∧ Fr1 w t g5 g6 (hopS O1 t.key) true (L1 ++ (hopP O1 t.key).flatMap encK) a2 n2 c2 W)
          case first =>
            by_cases e : (O1.k4 && decide (O1.h4.l = t.ad.l)) = true
            · obtain ⟨e1, e2⟩ := HH.1 e
              rw [e, Bool.not_true]
              go_wp2_with fail
              go_meet
              case rel => exact ⟨a1, n1, c1, rfl, by rw [e1, e2, List.append_nil]; exact F2⟩
            · rw [Bool.not_eq_true] at e
              obtain ⟨e1, e2⟩ := HH.2 e
              rw [HX.out.1, HX.out.2] at e1
              rw [e, Bool.not_false]
              have s0 := True.intro
              clear HH HF
              go_wp2_with (first
                | (have kk := s6; at_builtin; refine append_src rfl (.tmp 91) (.tmp 97) rfl w.heap.size _ n1 (bcells L1) rfl F5.own a5 n5 c5 (bcells (inL 7 ([x, 0] ++ y))) rfl s5 (bcells_one _) hN7 F5.b.size ?_; intro v7 w7 o7 g7 _; clear kk s6)
                | (have kk := s4m; go_at_call 36; refine (rjoin7_any 7 (by decide) a4 _ c4 _ _ s4 hN4).mono ?_; rintro e w5 ⟨a5, n5, c5, rfl, o5, b5⟩; clear kk s4m; have s6 := True.intro; obtain ⟨_, _, e5, s5, _⟩ := Src.ofOwn o5; cases e5; have F5 := F3.below (b4.trans (b5.mono b4.size)); have hN7 := hN7f n5 o5.1)
                | (have kk := s3; at_builtin; refine append_src rfl (.tmp 93) (.tmp 94) rfl w2.heap.size _ 2 [.int .u8 (x.toNat : Int), .int .u8 0] rfl (own_row (n := 2) (Row.new w2 5 [.int .u8 (x.toNat : Int), .int .u8 0]) rfl (by decide) (Nat.le_refl _)) ps pn pc (bcells y) rfl (p1.alloc _) (bcells_one _) hN3 (by rw [World.size_alloc]; exact Nat.le_succ _) ?_; intro v4 w4 o4 g4 _; clear kk s3; have s4m := True.intro; have b4 : Below w2.heap.size w2 w4 := (ba _ _).grown g4 (by rw [World.size_alloc]; exact Nat.le_succ _) (fun q hq => by cases hq; exact Nat.le_refl _); rw [show ([.int .u8 (x.toNat : Int), .int .u8 0] : List Value) = bcells [x, 0] from rfl, ← bcells_append] at o4; obtain ⟨a4, c4, rfl⟩ := own_shape o4; obtain ⟨_, _, e4, s4, _⟩ := Src.ofOwn o4; cases e4)
                | (have kk := s2; go_at_call 34; refine (HA _).mono ?_; rintro e w2 ⟨ps, pn, pc, rfl, p1, b2⟩; clear kk s2; have s3 := True.intro; replace F3 := F3.below b2; have hN3 := hN3f pn p1.blen; have hN4 := hN4f pn p1.blen)
                | (have kk := s2; refine ldA (.tmp 86) (by rfl) rfl w.heap.size 17 t.ad rfl F3.rt.rAd ?_)
                | (have kk := s1; refine stB (.tmp 84) (.const (.bool true)) (by rfl) rfl g6 58 _ true rfl rfl F3.r6 (by rw [scells_len]; decide) ?_; intro V3 g3 q3; rw [ss58] at q3; clear kk s1; have s2 := True.intro; replace F3 := F3.st q3 g3 hq65 hq60)
                | (have kk := s0; refine stA (.tmp 81) (.tmp 79) (by rfl) rfl g6 25 t.ad rfl rfl (F2.r6.thereMid (by rw [scells_len]; decide)) ?_; refine name_world (R := fun W => wpList _ _ _ _ _ W) (P := fun W => Fr1 w t g5 g6 { O1 with h4 := t.ad } true L1 a1 n1 c1 W) _ (F2.st (F2.r6.t4 t.ad) (grownBy_setCells g6 (acells t.ad) 25 _) hq65 hq60) ?_; clear kk s0 F2; intro V2 F3; have s1 := True.intro)
                | (have kk := s0; refine ldA (.tmp 78) (by rfl) rfl w.heap.size 17 t.ad rfl F2.rt.rAd ?_))
              go_meet
              case rel =>
                obtain ⟨a7, c7, rfl⟩ := own_shape o7
                refine ⟨a7, _, c7, rfl, ?_⟩
                rw [e1, e2]
                exact ⟨by rw [bcells_append]; exact o7, F5.rt.grown g7 (own_ne F5.own F5.rt (by decide)), F5.r5.grown g7 (own_ne F5.own F5.r5 (by decide)), F5.r6.grown g7 (own_ne F5.own F5.r6 (by decide)), F5.b.grown g7 F5.b.size (fun q hq => (F5.own.lt q hq).1)⟩
          case rest =>
            obtain ⟨a2, n2, c2, rfl, F3⟩ := hcut
            clear F2 HH HF
            go_upto_region 22 with fail
            generalize hopS O1 t.key = O2 at *
            generalize L1 ++ (hopP O1 t.key).flatMap encK = L2 at *
            refine wp_region_noPanic ?_
            refine wp_region_N (S := fun W => Fr1 w t g5 g6 O2 true L2 a2 n2 c2 W) 3 (by kernel_rfl) (F3.drew) (fun hHeld => ?_)
            refine takeN_lit (i := 0) (v := ?_) (F := #[false, true, false, false]) rfl (by kernel_rfl) (by kernel_rfl) (by kernel_rfl) (by kernel_rfl) (fun _ _ _ h => h) (Or.inl ⟨by rfl, ?_⟩) (by assumption) ?_
            rotate_left
            · (intro w hSw; (try dsimp only at hSw); go_simp <;> with_reducible rfl)
            try simp only [Act.put, List.setIfInBounds_toArray, List.set_cons_zero, List.set_cons_succ]
            refine takeN_lit (i := 1) (F := #[true, false, true, false]) rfl (by kernel_rfl) (by kernel_rfl) (by kernel_rfl) (by kernel_rfl) (fun _ _ _ h => h) (yS O2 true (fun w h => h.r6) (by rfl) rfl rfl) (by assumption) ?_
            try simp only [Act.put, List.setIfInBounds_toArray, List.set_cons_zero, List.set_cons_succ]
            refine takeN_lit (i := 2) (v := ?_) (F := #[true, true, false, false]) rfl (by kernel_rfl) (by kernel_rfl) (by kernel_rfl) (by kernel_rfl) (fun _ _ _ h => h) (Or.inl ⟨by rfl, ?_⟩) (by assumption) ?_
            rotate_left
            · (intro w hSw; (try dsimp only at hSw); go_simp <;> with_reducible rfl)
            try simp only [Act.put, List.setIfInBounds_toArray, List.set_cons_zero, List.set_cons_succ]
            refine wpAnyN_ready (rs := [3]) (by kernel_rfl) (by simp) ?_
            refine consN_lit rfl (fun K hK => ?_) ?_
            · skip
              refine sStS (.tmp 5) (.tmp 100) (by rfl) rfl g5 O2 zeroO true false rfl rfl hHeld.r5 ?_
              intro W9 g9 r9
              refine hK.out _ _ (Or.inl rfl) (fun _ => ?_)
              clear hK K
              try simp only [Act.put, List.setIfInBounds_toArray, List.set_cons_zero, List.set_cons_succ]
              refine wpAnyN_done (by kernel_rfl) ?_ _
              refine NoPanic.normal ?_
              have b9 := hHeld.b.grown g9 hHeld.b.size (fun q hq => by cases hq; exact Nat.le_of_lt hq5)
              have o9 := own_oth hHeld.own hHeld.r5 g9
              go_wp2_with fail
              exact bodyPost_ret (ret2C rfl _ _ 0 rfl rfl (lvS r9)) rfl ⟨a2, n2, c2, rfl, o9, b9⟩
            exact AllReadyN.nil
      · have hf4 : (f == 4) = false := by simpa using h4
        go_upto_region 17 with (first
          | (go_at_call 52; refine (HF _).mono ?_; rintro e w2 ⟨rfl, b2⟩; replace F1 := F1.below b2)
          | (refine ldA (.tmp 59) (by rfl) rfl w.heap.size 17 t.ad rfl F1.rt.rAd ?_))
        have hAe := eqA 9998 O1.h6 t.ad
        go_cut [76] (fun v W => v = .bool (!(O1.k6 && decide (O1.h6.l = t.ad.l))) ∧ Fr1 w t g5 g6 O1 true L1 a1 n1 c1 W)
        case first =>
          cases hk : O1.k6
          · skip
            refine wp_region_noPanic ?_
            refine wp_region_held_drew (S := fun W => Fr1 w t g5 g6 O1 true L1 a1 n1 c1 W) (by kernel_rfl) (F1.drew) (fun hHeld => ?_)
            refine tA 0 ?_
            refine tA 1 ?_
            refine tA 2 ?_
            refine tA 3 ?_ (hv := by intro w hSw; (try dsimp only at hSw); have hz := (hSw.r6.cell 59).trans (sc59 O1 true); rw [hk] at hz; go_simp <;> with_reducible rfl)
            refine tA 4 ?_
            refine tA 5 ?_
            refine tN 6 ?_
            refine tN 7 ?_
            refine tN 8 ?_
            refine tN 9 ?_
            refine tN 10 ?_
            refine tN 11 ?_
            refine tN 12 ?_
            refine tA 13 ?_
            refine dN ?_
            refine NoPanic.normal ?_
            go_wp2_with fail
            go_meet
            case rel => exact ⟨by rw [hk]; rfl, hHeld⟩
          · by_cases e : O1.h6.l = t.ad.l
            · rw [decide_eq_true e] at hAe
              refine wp_region_noPanic ?_
              refine wp_region_held_drew (S := fun W => Fr1 w t g5 g6 O1 true L1 a1 n1 c1 W) (by kernel_rfl) (F1.drew) (fun hHeld => ?_)
              refine tA 0 ?_
              refine tA 1 ?_
              refine tA 2 ?_
              refine tA 3 ?_ (hv := by intro w hSw; (try dsimp only at hSw); have hz := (hSw.r6.cell 59).trans (sc59 O1 true); rw [hk] at hz; go_simp <;> with_reducible rfl)
              refine tA 4 ?_
              refine tA 5 ?_
              refine tA 6 ?_
              refine tA 7 ?_
              refine tA 8 ?_
              refine tL 9 rfl (yA O1.h6 (fun w h => h.r6.s6) (by rfl) rfl rfl) ?_
              refine tA 10 ?_
              refine tL 11 rfl (yA t.ad (fun w h => h.rt.rAd) (by rfl) rfl rfl) ?_
              refine tA 12 ?_
              refine tA 13 ?_
              refine dN ?_
              refine NoPanic.normal ?_
              go_wp2_with fail
              go_meet
              case rel => exact ⟨by rw [hk]; simp [e], hHeld⟩
            · rw [decide_eq_false e] at hAe
              refine wp_region_noPanic ?_
              refine wp_region_held_drew (S := fun W => Fr1 w t g5 g6 O1 true L1 a1 n1 c1 W) (by kernel_rfl) (F1.drew) (fun hHeld => ?_)
              refine tA 0 ?_
              refine tA 1 ?_
              refine tA 2 ?_
              refine tA 3 ?_ (hv := by intro w hSw; (try dsimp only at hSw); have hz := (hSw.r6.cell 59).trans (sc59 O1 true); rw [hk] at hz; go_simp <;> with_reducible rfl)
              refine tA 4 ?_
              refine tA 5 ?_
              refine tA 6 ?_
              refine tA 7 ?_
              refine tA 8 ?_
              refine tL 9 rfl (yA O1.h6 (fun w h => h.r6.s6) (by rfl) rfl rfl) ?_
              refine tA 10 ?_
              refine tL 11 rfl (yA t.ad (fun w h => h.rt.rAd) (by rfl) rfl rfl) ?_
              refine tA 12 ?_
              refine tA 13 ?_
              refine dN ?_
              refine NoPanic.normal ?_
              go_wp2_with fail
              go_meet
              case rel => exact ⟨by rw [hk]; simp [e], hHeld⟩
        case rest =>
          obtain ⟨rfl, F2⟩ := hcut
          clear hAe F1
          go_upto_if 76 with fail
          have HH := HQ6.out h4
          clear HQ4 HQ6
          go_cut [7] (fun v W => ∃ a2 n2 c2, v = .slice a2 n2 c2 ∧ Fr1 w t g5 g6 (hopS O1 t.key) true (L1 ++ (hopP O1 t.key).flatMap encK) a2 n2 c2 W)
          case first =>
            by_cases e : (O1.k6 && decide (O1.h6.l = t.ad.l)) = true
            · obtain ⟨e1, e2⟩ := HH.1 e
              rw [e, Bool.not_true]
              go_wp2_with fail
              go_meet
              case rel => exact ⟨a1, n1, c1, rfl, by rw [e1, e2, List.append_nil]; exact F2⟩
            · rw [Bool.not_eq_true] at e
              obtain ⟨e1, e2⟩ := HH.2 e
              rw [HX.out.1, HX.out.2] at e1
              rw [e, Bool.not_false]
              have s0 := True.intro
              clear HH HF
              go_wp2_with (first
                | (have kk := s6; at_builtin; refine append_src rfl (.tmp 91) (.tmp 97) rfl w.heap.size _ n1 (bcells L1) rfl F5.own a5 n5 c5 (bcells (inL 7 ([x, 0] ++ y))) rfl s5 (bcells_one _) hN7 F5.b.size ?_; intro v7 w7 o7 g7 _; clear kk s6)
                | (have kk := s4m; go_at_call 36; refine (rjoin7_any 7 (by decide) a4 _ c4 _ _ s4 hN4).mono ?_; rintro e w5 ⟨a5, n5, c5, rfl, o5, b5⟩; clear kk s4m; have s6 := True.intro; obtain ⟨_, _, e5, s5, _⟩ := Src.ofOwn o5; cases e5; have F5 := F3.below (b4.trans (b5.mono b4.size)); have hN7 := hN7f n5 o5.1)
                | (have kk := s3; at_builtin; refine append_src rfl (.tmp 93) (.tmp 94) rfl w2.heap.size _ 2 [.int .u8 (x.toNat : Int), .int .u8 0] rfl (own_row (n := 2) (Row.new w2 5 [.int .u8 (x.toNat : Int), .int .u8 0]) rfl (by decide) (Nat.le_refl _)) ps pn pc (bcells y) rfl (p1.alloc _) (bcells_one _) hN3 (by rw [World.size_alloc]; exact Nat.le_succ _) ?_; intro v4 w4 o4 g4 _; clear kk s3; have s4m := True.intro; have b4 : Below w2.heap.size w2 w4 := (ba _ _).grown g4 (by rw [World.size_alloc]; exact Nat.le_succ _) (fun q hq => by cases hq; exact Nat.le_refl _); rw [show ([.int .u8 (x.toNat : Int), .int .u8 0] : List Value) = bcells [x, 0] from rfl, ← bcells_append] at o4; obtain ⟨a4, c4, rfl⟩ := own_shape o4; obtain ⟨_, _, e4, s4, _⟩ := Src.ofOwn o4; cases e4)
                | (have kk := s2; go_at_call 34; refine (HA _).mono ?_; rintro e w2 ⟨ps, pn, pc, rfl, p1, b2⟩; clear kk s2; have s3 := True.intro; replace F3 := F3.below b2; have hN3 := hN3f pn p1.blen; have hN4 := hN4f pn p1.blen)
                | (have kk := s2; refine ldA (.tmp 86) (by rfl) rfl w.heap.size 17 t.ad rfl F3.rt.rAd ?_)
                | (have kk := s1; refine stB (.tmp 84) (.const (.bool true)) (by rfl) rfl g6 59 _ true rfl rfl F3.r6 (by rw [scells_len]; decide) ?_; intro V3 g3 q3; rw [ss59] at q3; clear kk s1; have s2 := True.intro; replace F3 := F3.st q3 g3 hq65 hq60)
                | (have kk := s0; refine stA (.tmp 81) (.tmp 79) (by rfl) rfl g6 41 t.ad rfl rfl (F2.r6.thereMid (by rw [scells_len]; decide)) ?_; refine name_world (R := fun W => wpList _ _ _ _ _ W) (P := fun W => Fr1 w t g5 g6 { O1 with h6 := t.ad } true L1 a1 n1 c1 W) _ (F2.st (F2.r6.t6 t.ad) (grownBy_setCells g6 (acells t.ad) 41 _) hq65 hq60) ?_; clear kk s0 F2; intro V2 F3; have s1 := True.intro)
                | (have kk := s0; refine ldA (.tmp 78) (by rfl) rfl w.heap.size 17 t.ad rfl F2.rt.rAd ?_))
              go_meet
              case rel =>
                obtain ⟨a7, c7, rfl⟩ := own_shape o7
                refine ⟨a7, _, c7, rfl, ?_⟩
                rw [e1, e2]
                exact ⟨by rw [bcells_append]; exact o7, F5.rt.grown g7 (own_ne F5.own F5.rt (by decide)), F5.r5.grown g7 (own_ne F5.own F5.r5 (by decide)), F5.r6.grown g7 (own_ne F5.own F5.r6 (by decide)), F5.b.grown g7 F5.b.size (fun q hq => (F5.own.lt q hq).1)⟩
          case rest =>
            obtain ⟨a2, n2, c2, rfl, F3⟩ := hcut
            clear F2 HH HF
            go_upto_region 22 with fail
            generalize hopS O1 t.key = O2 at *
            generalize L1 ++ (hopP O1 t.key).flatMap encK = L2 at *
            refine wp_region_noPanic ?_
            refine wp_region_N (S := fun W => Fr1 w t g5 g6 O2 true L2 a2 n2 c2 W) 3 (by kernel_rfl) (F3.drew) (fun hHeld => ?_)
            refine takeN_lit (i := 0) (v := ?_) (F := #[false, true, false, false]) rfl (by kernel_rfl) (by kernel_rfl) (by kernel_rfl) (by kernel_rfl) (fun _ _ _ h => h) (Or.inl ⟨by rfl, ?_⟩) (by assumption) ?_
            rotate_left
            · (intro w hSw; (try dsimp only at hSw); go_simp <;> with_reducible rfl)
            try simp only [Act.put, List.setIfInBounds_toArray, List.set_cons_zero, List.set_cons_succ]
            refine takeN_lit (i := 1) (F := #[true, false, true, false]) rfl (by kernel_rfl) (by kernel_rfl) (by kernel_rfl) (by kernel_rfl) (fun _ _ _ h => h) (yS O2 true (fun w h => h.r6) (by rfl) rfl rfl) (by assumption) ?_
            try simp only [Act.put, List.setIfInBounds_toArray, List.set_cons_zero, List.set_cons_succ]
            refine takeN_lit (i := 2) (v := ?_) (F := #[true, true, false, false]) rfl (by kernel_rfl) (by kernel_rfl) (by kernel_rfl) (by kernel_rfl) (fun _ _ _ h => h) (Or.inl ⟨by rfl, ?_⟩) (by assumption) ?_
            rotate_left
            · (intro w hSw; (try dsimp only at hSw); go_simp <;> with_reducible rfl)
            try simp only [Act.put, List.setIfInBounds_toArray, List.set_cons_zero, List.set_cons_succ]
            refine wpAnyN_ready (rs := [3]) (by kernel_rfl) (by simp) ?_
            refine consN_lit rfl (fun K hK => ?_) ?_
            · skip
              refine sStS (.tmp 5) (.tmp 100) (by rfl) rfl g5 O2 zeroO true false rfl rfl hHeld.r5 ?_
              intro W9 g9 r9
              refine hK.out _ _ (Or.inl rfl) (fun _ => ?_)
              clear hK K
              try simp only [Act.put, List.setIfInBounds_toArray, List.set_cons_zero, List.set_cons_succ]
              refine wpAnyN_done (by kernel_rfl) ?_ _
              refine NoPanic.normal ?_
              have b9 := hHeld.b.grown g9 hHeld.b.size (fun q hq => by cases hq; exact Nat.le_of_lt hq5)
              have o9 := own_oth hHeld.own hHeld.r5 g9
              go_wp2_with fail
              exact bodyPost_ret (ret2C rfl _ _ 0 rfl rfl (lvS r9)) rfl ⟨a2, n2, c2, rfl, o9, b9⟩
            exact AllReadyN.nil
end Go.Proofs.YtdibjgcokebfbaaGreat
