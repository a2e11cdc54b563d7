/-
  The law TlvKnown returns true for every types and every bytes.
-/
import Derived.Test.YtgkonglkfjbmnaaSub
import Derived.Test.YtgkonglkfjbmnaaPure
import Derived.Test.YtgkonglkfjbmnaaLive
namespace Go.Proofs.Ytgkonglkfjbmnaa
open Go.RowKit
set_option linter.unusedSimpArgs false

abbrev Ky := UInt8 × List UInt8
def selK (ts : List UInt8) (ks : List Ky) : List Ky := ks.filter fun k => decide (1 < k.1.toNat) && knB ts k.1.toNat
def mustK (ts : List UInt8) (ks : List Ky) : Bool := ks.all fun k => decide (k.1.toNat < 128) || knB ts k.1.toNat
def cntK (ks : List Ky) : Nat := (ks.filter fun k => decide (1 < k.1.toNat)).length
theorem sel_keys (ts : List UInt8) (ps : List Pc) : keys (sel ts ps) = selK ts (keys ps) := by
  induction ps with
  | nil => rfl
  | cons p ps ih =>
    unfold sel selK keys at *
    simp only [List.filter_cons, List.map_cons]
    have e : selB ts p = (decide (1 < p.t.toNat) && knB ts p.t.toNat) := rfl
    rw [e]
    cases (decide (1 < p.t.toNat) && knB ts p.t.toNat) <;> simp [ih]
theorem must_keys (ts : List UInt8) (ps : List Pc) : ps.all (mustB ts) = mustK ts (keys ps) := by
  unfold mustK keys
  rw [List.all_map]
  rfl
theorem knB_mem {ev : List UInt8} {t : UInt8} (h : t ∈ ev) : knB ev t.toNat = true := List.any_eq_true.2 ⟨t, h, by simp⟩
theorem selK_le (ts : List UInt8) : ∀ ks : List Ky, (selK ts ks).length ≤ cntK ks
  | [] => Nat.le_refl _
  | k :: ks => by
    have ih := selK_le ts ks
    unfold selK cntK at *
    simp only [List.filter_cons]
    by_cases h : 1 < k.1.toNat
    · rw [decide_eq_true h]
      cases knB ts k.1.toNat <;> simp <;> omega
    · rw [decide_eq_false h]
      simpa using ih
theorem selK_lt (ts : List UInt8) : ∀ ks : List Ky, mustK ts ks = true ∨ (selK ts ks).length < cntK ks
  | [] => .inl rfl
  | k :: ks => by
    have ih := selK_lt ts ks
    have hle := selK_le ts ks
    unfold selK cntK mustK at *
    simp only [List.filter_cons, List.all_cons]
    by_cases h : 1 < k.1.toNat
    · rw [decide_eq_true h]
      cases hq : knB ts k.1.toNat with
      | true =>
        rcases ih with ih | ih
        · left
          simpa using ih
        · right
          simpa using ih
      | false =>
        right
        simp
        omega
    · rw [decide_eq_false h, decide_eq_true (show k.1.toNat < 128 by omega)]
      simpa using ih
theorem selK_all (ev : List UInt8) (ks : List Ky) (h : ∀ k ∈ ks, k.1 ∈ ev) : (selK ev ks).length = cntK ks ∧ mustK ev ks = true := by
  constructor
  · unfold selK cntK
    congr 1
    apply List.filter_congr
    intro k hk
    rw [knB_mem (h k hk)]
    simp
  · unfold mustK
    rw [List.all_eq_true]
    intro k hk
    rw [knB_mem (h k hk)]
    simp
/-- What Sub tells, by the keys. -/
def SubN (w : World) (ts l : List UInt8) (N : Nat) (B : Bool) (z : Int) (e : Ending) (w' : World) : Prop :=
  ∃ a c qs, e = .returned (.tuple #[.slice a N c, .bool B, .int .i64 z]) ∧ Rws w' a N qs ∧ keys qs = selK ts (splL l).1 ∧ Below w.heap.size w w'
theorem subN_any (a0 : Option Addr) (n0 c0 : Nat) (ts : List UInt8) (a1 : Option Addr) (n1 c1 : Nat) (l : List UInt8) (w : World) (h0 : Src w a0 n0 c0 (bcells ts)) (h1 : Src w a1 n1 c1 (bcells l)) (hn0 : n0 ≤ 140737488355328) (hn1 : n1 ≤ 3000000000000) :
    Calls Try.prog 19 #[.slice a0 n0 c0, .slice a1 n1 c1] w (SubN w ts l (selK ts (splL l).1).length (mustK ts (splL l).1) (splL l).2) := by
  refine (sub_any a0 n0 c0 ts a1 n1 c1 l w h0 h1 hn0 hn1).mono ?_
  rintro e w' ⟨a, c, ps, hk, rfl, ho, hb, hle, hbel⟩
  have e1 : (sel ts ps).length = (selK ts (splL l).1).length := by rw [← keys_len, sel_keys, hk]
  rw [must_keys, hk, e1]
  have hr : Rws w' a (sel ts ps).length (sel ts ps) := own_rws ho (fun p hp => hb p (List.mem_filter.1 hp).1)
  rw [e1] at hr
  exact ⟨a, c, _, rfl, hr, by rw [sel_keys, hk], hbel⟩

theorem known_long (a0 : Option Addr) (n0 c0 : Nat) (a1 : Option Addr) (n1 c1 : Nat) (w : World) (h : 300 < n0 ∨ 70000 < n1) :
    Calls Try.prog 7 #[.slice a0 n0 c0, .slice a1 n1 c1] w fun e w' => e = .returned (.bool true) ∧ Below w.heap.size w w' := by
  by_cases h0 : 300 < n0
  · have h0' : (300 : Int) < (n0 : Int) := by omega
    clear h
    go_enter Try.func7, Try.ntmps7
    go_wp2_with (go_at_call 8; refine (live_any _).mono ?_; rintro e w' ⟨rfl, hw⟩)
    go_ret
    exact ⟨rfl, hw⟩
  · have h0' : ¬ (300 : Int) < (n0 : Int) := by omega
    have h1' : (70000 : Int) < (n1 : Int) := by omega
    clear h
    go_enter Try.func7, Try.ntmps7
    go_wp2_with (go_at_call 8; refine (live_any _).mono ?_; rintro e w' ⟨rfl, hw⟩)
    go_ret
    exact ⟨rfl, hw⟩
def ty (ps : List Pc) : List UInt8 := ps.map Pc.t
theorem ty_take (ps : List Pc) (j : Nat) (hj : j < ps.length) : ty (ps.take (j + 1)) = ty (ps.take j) ++ [ps[j].t] := by
  unfold ty
  rw [List.take_succ_eq_append_getElem hj, List.map_append]; simp
theorem cnt_take (ps : List Pc) (j : Nat) (hj : j < ps.length) : cntK (keys (ps.take (j + 1))) = cntK (keys (ps.take j)) + if 1 < ps[j].t.toNat then 1 else 0 := by
  unfold cntK keys
  rw [List.take_succ_eq_append_getElem hj, List.map_append, List.filter_append]
  by_cases h : 1 < ps[j].t.toNat <;> simp [h]
theorem kn_take (ts : List UInt8) (j i : Nat) (hj : j < ts.length) : knB (ts.take (j + 1)) i = (knB (ts.take j) i || ts[j].toNat == i) := by
  unfold knB
  rw [List.take_succ_eq_append_getElem hj, List.any_append]
  simp

theorem Rws.cell0 {w : World} {g o n : Nat} {ps : List Pc} (h : Rws w (some ⟨g, o, none⟩) n ps) {j : Nat} (hj : j < ps.length) : w.cell? ⟨g, o + j * 2, none⟩ = some (.int .u8 (ps[j].t.toNat : Int)) := by
  obtain ⟨g', o', e, h1, _⟩ := h.at hj
  cases e
  exact h1
set_option maxHeartbeats 2000000 in
theorem known_walk (a0 : Option Addr) (n0 c0 : Nat) (ts : List UInt8) (a1 : Option Addr) (n1 c1 : Nat) (l : List UInt8) (w : World) (h0 : Src w a0 n0 c0 (bcells ts)) (h1 : Src w a1 n1 c1 (bcells l)) (k0 : n0 ≤ 300) (k1 : n1 ≤ 70000) :
    Calls Try.prog 7 #[.slice a0 n0 c0, .slice a1 n1 c1] w fun e w' => e = .returned (.bool true) ∧ Below w.heap.size w w' := by
  have HN0 : Hid (n0 = ts.length) := h0.blen
  have HN1 : Hid (n1 = l.length) := h1.blen
  obtain ⟨z, HZ⟩ : ∃ z, Hid (z = (splL l).2) := ⟨_, rfl⟩
  obtain ⟨N, HN⟩ : ∃ N, Hid (N = (selK ts (splL l).1).length) := ⟨_, rfl⟩
  obtain ⟨B, HB⟩ : ∃ B, Hid (B = mustK ts (splL l).1) := ⟨_, rfl⟩
  obtain ⟨C, HC⟩ : ∃ C, Hid (C = cntK (splL l).1) := ⟨_, rfl⟩
  have hNC : N ≤ C := by rw [HN.out, HC.out]; exact selK_le _ _
  have hBC : Hid (B = true ∨ N < C) := by show _ ∨ _; rw [HB.out, HN.out, HC.out]; exact selK_lt _ _
  have HSB : Hid (∀ W, Src W a0 n0 c0 (bcells ts) → Src W a1 n1 c1 (bcells l) → Calls Try.prog 19 #[.slice a0 n0 c0, .slice a1 n1 c1] W (SubN W ts l N B z)) := by
    rw [HN.out, HB.out, HZ.out]
    exact fun W s0 s1 => subN_any a0 n0 c0 ts a1 n1 c1 l W s0 s1 (by omega) (by omega)
  have HSP : Hid (∀ W, Src W a1 n1 c1 (bcells l) → Calls Try.prog 17 #[.slice a1 n1 c1] W fun e w' => ∃ a c n qs, e = .returned (.tuple #[.slice a n c, .int .i64 z]) ∧ Rws w' a n qs ∧ Hid (keys qs = (splL l).1) ∧ n ≤ 70000 ∧ Below W.heap.size W w') := by
    intro W s1
    refine (split_any a1 n1 c1 l W s1 (by omega)).mono ?_
    rintro e w' ⟨a, c, ps, rfl, hk, ho, hb, hle, hbel⟩
    rw [HZ.out]
    exact ⟨a, c, _, ps, rfl, own_rws ho hb, hk, by have := HN1.out; omega, hbel⟩
  have HSE : Hid (∀ W a c n ev, n ≤ 70000 → Src W a n c (bcells ev) → Src W a1 n1 c1 (bcells l) → (∀ k ∈ (splL l).1, k.1 ∈ ev) → Calls Try.prog 19 #[.slice a n c, .slice a1 n1 c1] W (SubN W ev l C true z)) := by
    intro W a c n ev hn s0 s1 hev
    obtain ⟨e1, e2⟩ := selK_all ev (splL l).1 hev
    have := subN_any a n c ev a1 n1 c1 l W s0 s1 (by omega) (by omega)
    rw [e1, e2, ← HZ.out, ← HC.out] at this
    exact this
  unfold SubN at HSB HSE
  go_enter Try.func7, Try.ntmps7
  go_wp2_with (first
    | (go_at_call 17; refine (HSP.out _ (h1.below b1 h1.lt)).mono ?_; rintro e w2 ⟨a2, c2, n2, qs, rfl, r2, hq2, hn2, b2⟩; have g2 := b1.trans (b2.mono b1.size))
    | (go_at_call 19; refine (HSB.out _ h0 h1).mono ?_; rintro e w1 ⟨aL, cL, ls, rfl, rL, hqL, b1⟩))
  have HN2 : Hid (n2 = qs.length) := r2.len.symm
  have rL2 := rL.below b2
  go_loopw [10, 11, 12] (fun v cn i wr => ∃ (j x : Nat), j ≤ n2 ∧ x ≤ j ∧ i = .int .i64 j ∧ cn = .int .i64 x ∧ Hid (x = cntK (keys (qs.take j))) ∧ wr.ownsRow w2.heap.size 5 1 v j (bcells (ty (qs.take j))) ∧ Below w2.heap.size w2 wr) (fun _ _ i _ => n2 - (intOf i).toNat)
  case atStart => exact ⟨0, 0, Nat.zero_le _, Nat.zero_le _, rfl, rfl, (rfl : _ = _), World.ownsRow_nil _ _ _ _, Below.refl _ _⟩
  case round =>
    obtain ⟨j, x, hj, hxj, rfl, rfl, hx, hown, hb⟩ := hrel
    by_cases hlt : j < n2
    · have hjk : j < qs.length := by have := HN2.out; omega
      obtain ⟨g, o, rfl, c0', c1'⟩ := (r2.below hb).at hjk
      have HT := ty_take qs j hjk
      have HX := cnt_take qs j hjk
      rw [← hx.out] at HX
      have ht := qs[j].t.toNat_lt
      generalize hT : qs[j].t = t at *
      have HT' : Hid (bcells (ty (qs.take (j + 1))) = bcells (ty (qs.take j)) ++ [.int .u8 (t.toNat : Int)]) := by show _ = _; rw [HT, bcells_append]; rfl
      have HX' : Hid (cntK (keys (qs.take (j + 1))) = x + if 1 < t.toNat then 1 else 0) := HX
      have hbs := hb.size
      have HC0 : Hid (∀ W, Below w2.heap.size w2 W → W.cell? ⟨g, o + j * 2, none⟩ = some (.int .u8 (qs[j].t.toNat : Int))) := fun W hW => (r2.below hW).cell0 hjk
      rw [show qs[j].t = t from hT] at HC0
      clear HT HX c1' hT
      by_cases h1t : 1 < t.toNat
      · have h1t' : (1 : Int) < (t.toNat : Int) := by omega
        go_wp2_with (at_builtin; refine append_src rfl (.tmp 46) (.tmp 52) rfl w2.heap.size u10 j (bcells (ty (qs.take j))) rfl (hown.alloc _) (some ⟨wr.heap.size, 0, none⟩) 1 1 [.int .u8 (t.toNat : Int)] rfl (new_src wr #[.int .u8 (t.toNat : Int)]) (by intro u hu; simp at hu; subst hu; rfl) (by omega) (by simp; omega) ?_; intro v6 w6 own6 hg6 _; have b6 := (hb.alloc hbs _).grown hg6 (by simp; omega) (ownBlock_ge hown); have c6 := HC0.out _ b6)
        go_roundw
        case rel => exact ⟨j + 1, x + 1, by omega, by omega, by go_num, by go_num, by show _ = _; rw [HX'.out, if_pos h1t], by rw [HT'.out]; exact own6, b6⟩
        case measure => simp [intOf]; omega
      · have h1t' : ¬ (1 : Int) < (t.toNat : Int) := by omega
        go_wp2_with (at_builtin; refine append_src rfl (.tmp 46) (.tmp 52) rfl w2.heap.size u10 j (bcells (ty (qs.take j))) rfl (hown.alloc _) (some ⟨wr.heap.size, 0, none⟩) 1 1 [.int .u8 (t.toNat : Int)] rfl (new_src wr #[.int .u8 (t.toNat : Int)]) (by intro u hu; simp at hu; subst hu; rfl) (by omega) (by simp; omega) ?_; intro v6 w6 own6 hg6 _; have b6 := (hb.alloc hbs _).grown hg6 (by simp; omega) (ownBlock_ge hown); have c6 := HC0.out _ b6)
        go_roundw
        case rel => exact ⟨j + 1, x, by omega, by omega, by go_num, rfl, by show _ = _; rw [HX'.out, if_neg h1t]; rfl, by rw [HT'.out]; exact own6, b6⟩
        case measure => simp [intOf]; omega
    · obtain rfl : n2 = j := by omega
      have e : qs.take n2 = qs := List.take_of_length_le (by have := HN2.out; omega)
      rw [e] at hx hown
      obtain rfl : x = C := by rw [hx.out, HC.out, hq2.out]
      obtain ⟨aE, cE, rfl⟩ := own_shape hown
      have sE := own_src hown
      have HEV : Hid (∀ k ∈ (splL l).1, k.1 ∈ ty qs) := by
        intro k hk
        rw [← hq2.out] at hk
        obtain ⟨p, hp, rfl⟩ := List.mem_map.1 hk
        exact List.mem_map.2 ⟨p, hp, rfl⟩
      have g3 : Below w.heap.size w wr := g2.trans (hb.mono g2.size)
      have rL3 := rL2.below hb
      clear hown hx e r2 hq2 HN2
      go_wp2
      have HNL : Hid (N = ls.length) := rL.len.symm
      have HSEL : Hid (∀ (i : Nat) (h : i < ls.length), 1 < ls[i].t.toNat ∧ knB ts ls[i].t.toNat = true) := by
        intro i h
        have h2 : (ls[i].t, ls[i].l) ∈ selK ts (splL l).1 := by
          rw [← hqL]
          exact List.mem_map.2 ⟨ls[i], List.getElem_mem h, rfl⟩
        have h3 := (List.mem_filter.1 h2).2
        simpa using h3
      rename World => w3
      go_loopw [13] (fun i wq => ∃ (j : Nat), j ≤ N ∧ i = .int .i64 j ∧ Below w3.heap.size w3 wq) (fun i _ => N - (intOf i).toNat)
      case atStart => exact ⟨0, Nat.zero_le _, rfl, Below.refl _ _⟩
      case round =>
        rename World => wq
        obtain ⟨i, hi, rfl, hbq⟩ := hrel
        by_cases hil : i < N
        · have hik : i < ls.length := by have := HNL.out; omega
          obtain ⟨h1t, hkn⟩ := HSEL.out i hik
          obtain ⟨g, o, rfl, _, _⟩ := (rL3.below hbq).at hik
          have HCL : Hid (∀ W, Below w3.heap.size w3 W → W.cell? ⟨g, o + i * 2, none⟩ = some (.int .u8 (ls[i].t.toNat : Int))) := fun W hW => (rL3.below hW).cell0 hik
          have ht := ls[i].t.toNat_lt
          generalize ls[i].t.toNat = T at *
          have h1t' : ¬ (T : Int) ≤ 1 := by omega
          have HKN : Hid (knB ts T = true) := hkn
          clear hkn
          go_wp2
          go_loopw [14, 15] (fun inn k wp => ∃ (m : Nat) (q : Bool), m ≤ n0 ∧ k = .int .i64 m ∧ inn = .bool q ∧ Hid (q = knB (ts.take m) T) ∧ Below w3.heap.size w3 wp) (fun _ k _ => n0 - (intOf k).toNat)
          case atStart => exact ⟨0, false, Nat.zero_le _, rfl, rfl, (rfl : _ = _), hbq⟩
          case round =>
            clear hbq
            rename World => wp
            obtain ⟨m, q, hm, rfl, rfl, hq, hbp⟩ := hrel
            by_cases hml : m < n0
            · have hmk : m < ts.length := by have := HN0.out; omega
              have HKT := kn_take ts m T hmk
              rw [← hq.out] at HKT
              cases a0 with
              | none => exact absurd (h0.bare rfl).1 (by omega)
              | some ad =>
                have g4 : Below w.heap.size w wp := g3.trans (hbp.mono g3.size)
                have d0 := (h0.below g4 h0.lt).byteAt m hmk
                have d1 := HCL.out _ hbp
                have hu := ts[m].toNat_lt
                generalize ts[m].toNat = U at *
                have HKT' : Hid (knB (ts.take (m + 1)) T = (q || U == T)) := HKT
                clear HKT g4
                cases q with
                | true =>
                  go_wp2
                  go_quiet (fail)
                  go_wp2
                  go_roundw
                  case rel => exact ⟨m + 1, true, by omega, by go_num, rfl, by show _ = _; rw [HKT'.out]; rfl, below_drewN hbp _⟩
                  case measure => simp [intOf]; omega
                | false =>
                  by_cases hUT : U = T
                  · subst hUT
                    go_wp2
                    go_quiet (fail)
                    go_wp2
                    go_roundw
                    case rel => exact ⟨m + 1, true, by omega, by go_num, by simp, by show _ = _; rw [HKT'.out]; simp, below_drewN hbp _⟩
                    case measure => simp [intOf]; omega
                  · have hUT' : ((U : Int) == (T : Int)) = false := by simp; omega
                    have hUT2 : ¬ (U : Int) = (T : Int) := by omega
                    go_wp2
                    go_quiet (fail)
                    go_wp2
                    go_roundw
                    case rel => exact ⟨m + 1, false, by omega, by go_num, by simp [hUT], by show _ = _; rw [HKT'.out]; simp [hUT], below_drewN hbp _⟩
                    case measure => simp [intOf]; omega
            · obtain rfl : n0 = m := by omega
              have e : ts.take n0 = ts := List.take_of_length_le (by have := HN0.out; omega)
              rw [e] at hq
              obtain rfl : q = true := by rw [hq.out]; exact HKN.out
              have d1 := HCL.out _ hbp
              go_wp2
              go_roundw
              case rel => exact ⟨i + 1, by omega, by go_num, hbp⟩
              case measure => simp [intOf]; omega
        · obtain rfl : N = i := by omega
          have g4 : Below w.heap.size w wq := g3.trans (hbq.mono g3.size)
          cases B with
          | true =>
            go_wp2_with (first
              | (go_at_call 19; refine (HSE.out _ _ _ _ (ty qs) hn2 (sE.below hbq sE.lt) (h1.below g4 h1.lt) HEV.out).mono ?_; rintro e w5 ⟨a5, c5, rs, rfl, r5, hq5, b5⟩; have g5 := g4.trans (b5.mono g4.size))
              | (go_at_call 13; refine (num_any _ _).mono ?_; rintro e wn ⟨rfl, rfl⟩)
              | (go_at_call 8; refine (live_any _).mono ?_; rintro e w6 ⟨rfl, b6⟩))
            go_ret
            exact ⟨rfl, g5.trans (b6.mono g5.size)⟩
          | false =>
            have hNC2 : N < x := by rcases hBC.out with h | h; cases h; exact h
            have hNC3 : (N : Int) < (x : Int) := by omega
            go_wp2_with (first
              | (go_at_call 19; refine (HSE.out _ _ _ _ (ty qs) hn2 (sE.below hbq sE.lt) (h1.below g4 h1.lt) HEV.out).mono ?_; rintro e w5 ⟨a5, c5, rs, rfl, r5, hq5, b5⟩; have g5 := g4.trans (b5.mono g4.size))
              | (go_at_call 13; refine (num_any _ _).mono ?_; rintro e wn ⟨rfl, rfl⟩)
              | (go_at_call 8; refine (live_any _).mono ?_; rintro e w6 ⟨rfl, b6⟩))
            go_ret
            exact ⟨rfl, g5.trans (b6.mono g5.size)⟩
theorem known_any (a0 : Option Addr) (n0 c0 : Nat) (ts : List UInt8) (a1 : Option Addr) (n1 c1 : Nat) (l : List UInt8) (w : World) (h0 : Src w a0 n0 c0 (bcells ts)) (h1 : Src w a1 n1 c1 (bcells l)) :
    Calls Try.prog 7 #[.slice a0 n0 c0, .slice a1 n1 c1] w fun e w' => e = .returned (.bool true) ∧ Below w.heap.size w w' := by
  by_cases h : 300 < n0 ∨ 70000 < n1
  · exact known_long a0 n0 c0 a1 n1 c1 w h
  · exact known_walk a0 n0 c0 ts a1 n1 c1 l w h0 h1 (by omega) (by omega)
end Go.Proofs.Ytgkonglkfjbmnaa
