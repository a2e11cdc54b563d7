/-
  The contract of tlv.Sub for every types and every bytes.
-/
import Derived.Test.YtaleclmccmeglaaSet
namespace Go.Proofs.Ytaleclmccmeglaa
open Go.RowKit
set_option linter.unusedSimpArgs false

/-- Which pieces are told; whether all that must be known are. -/
def selB (ts : List UInt8) (p : Pc) : Bool := decide (1 < p.t.toNat) && knB ts p.t.toNat
def mustB (ts : List UInt8) (p : Pc) : Bool := decide (p.t.toNat < 128) || knB ts p.t.toNat
def sel (ts : List UInt8) (ps : List Pc) : List Pc := ps.filter (selB ts)
theorem sel_take (ts : List UInt8) (ps : List Pc) (j : Nat) (hj : j < ps.length) : sel ts (ps.take (j + 1)) = sel ts (ps.take j) ++ (if selB ts ps[j] then [ps[j]] else []) := by
  unfold sel
  rw [List.take_succ_eq_append_getElem hj, List.filter_append]
  congr 1
  cases h : selB ts ps[j] <;> simp [h]
theorem must_take (ts : List UInt8) (ps : List Pc) (j : Nat) (hj : j < ps.length) : (ps.take (j + 1)).all (mustB ts) = ((ps.take j).all (mustB ts) && mustB ts ps[j]) := by
  rw [List.take_succ_eq_append_getElem hj, List.all_append]; simp
theorem sel_le (ts : List UInt8) (ps : List Pc) : (sel ts ps).length ≤ ps.length := List.length_filter_le _ _
/-- What Sub tells. -/
def Subs (w : World) (ts l : List UInt8) (e : Ending) (w' : World) : Prop :=
  ∃ a c ps, keys ps = (splL l).1 ∧ e = .returned (.tuple #[.slice a (sel ts ps).length c, .bool (ps.all (mustB ts)), .int .i64 (splL l).2]) ∧ w'.ownsRow w.heap.size 60 2 (.slice a (sel ts ps).length c) (sel ts ps).length (rcs (sel ts ps)) ∧ Bods w.heap.size w' ps ∧ ps.length ≤ l.length ∧ Below w.heap.size w w'
theorem Bods.below {B : Nat} {w w' : World} {ps : List Pc} (h : Bods B w ps) (hb : Below w.heap.size w w') : Bods B w' ps := h.keep (grownBy_below none hb) (fun _ _ => .inr rfl)

theorem two_newR (w : World) (o : Obj) (t : TypeId) (cs : List Value) : Row ((w.alloc o).alloc (.cells cs.toArray t)) (w.heap.size + 1) t cs := by
  have := Row.new (w.alloc o) t cs
  rwa [World.size_alloc] at this
set_option maxHeartbeats 1000000 in
theorem sub_any (a0 : Option Addr) (n0 c0 : Nat) (ts : List UInt8) (a1 : Option Addr) (n1 c1 : Nat) (l : List UInt8) (w : World) (h0 : Src w a0 n0 c0 (bcells ts)) (h1 : Src w a1 n1 c1 (bcells l)) (hn0 : n0 ≤ 140737488355328) (hn1 : n1 ≤ 3000000000000) :
    Calls Try.prog 93 #[.slice a0 n0 c0, .slice a1 n1 c1] w (Subs w ts l) := by
  have HN : Hid (n1 = l.length) := h1.blen
  obtain ⟨z, HZ⟩ : ∃ z, Hid (z = (splL l).2) := ⟨_, rfl⟩
  have HSP : Hid (∀ W a c, Src W a n1 c (bcells l) → Calls Try.prog 19 #[.slice a n1 c] W fun e w' => ∃ a c ps n, Hid (n = ps.length) ∧ e = .returned (.tuple #[.slice a n c, .int .i64 z]) ∧ keys ps = (splL l).1 ∧ Rws w' a n ps ∧ Bods W.heap.size w' ps ∧ ps.length ≤ l.length ∧ Below W.heap.size W w') := by
    intro W a c h
    refine (split_any a n1 c l W h hn1).mono ?_
    rintro e w' ⟨a, c, ps, rfl, k1, k2, k3, k4, k5⟩
    rw [HZ.out]
    exact ⟨a, c, ps, _, (rfl : _ = _), rfl, k1, own_rws k2 k3, k3, k4, k5⟩
  go_enter Try.func93, Try.ntmps93
  go_wp2_with (first
    | (go_at_call 19; refine (HSP.out _ _ _ (h1.below g3 h1.lt)).mono ?_; rintro e w4 ⟨a4, c4, ps, n, hn4, rfl, hk, r4, bo4, hle, b4⟩; have g4 := g3.trans (b4.mono g3.size); have K4 := K3.below b4 K3.lt)
    | (refine stK (.tmp 7) (.tmp 15) (by rfl) rfl w1.heap.size ts [] rfl rfl K2 ?_; intro w3 hg3 K3; have g3 := (b1.trans (b2.mono b1.size)).grown hg3 (Nat.le_trans b1.size b2.size) (fun k hk => by cases hk; exact b1.size))
    | (refine alK (by rfl) rfl ?_; intro w2 b2 K2)
    | (go_at_call 99; refine (set_any a0 n0 c0 ts w h0 hn0).mono ?_; rintro e w1 ⟨rfl, b1⟩))
  have hlt1 : w1.heap.size < w4.heap.size := K4.lt
  have hnn : n ≤ 3000000000000 := by have := hn4.out; have := HN.out; omega
  go_loopw [10, 11, 23] (fun v en i wr => ∃ (j m : Nat) (b : Bool), j ≤ n ∧ i = .int .i64 j ∧ en = .bool b ∧ Hid (b = (ps.take j).all (mustB ts)) ∧ Hid (m = (sel ts (ps.take j)).length) ∧ m ≤ j ∧ wr.ownsRow w4.heap.size 60 2 v m (rcs (sel ts (ps.take j))) ∧ Below w4.heap.size w4 wr) (fun _ _ i _ => n - (intOf i).toNat)
  case atStart => exact ⟨0, 0, true, Nat.zero_le _, rfl, rfl, (rfl : _ = _), (rfl : _ = _), Nat.le_refl _, World.ownsRow_nil _ _ _ _, Below.refl _ _⟩
  case round =>
    obtain ⟨j, m, b, hj, rfl, rfl, hbm, hm, hmj, hown, hb⟩ := hrel
    by_cases hlt : j < n
    · have hjk : j < ps.length := by have := hn4.out; omega
      obtain ⟨g, o, rfl, c0, c1⟩ := (r4.below hb).at hjk
      have HS := sel_take ts ps j hjk
      have HM := must_take ts ps j hjk
      rw [← hbm.out] at HM
      generalize ps[j] = p at *
      obtain ⟨t, pa, pn, pc, pl⟩ := p
      have ht := t.toNat_lt
      have K6 := ((K4.below hb hlt1).alloc (.cells #[.int .u8 (t.toNat : Int), .slice pa pn pc] 60)).cell t.toNat
      rw [kn_get _ _ ht] at K6
      have eS : selB ts ⟨t, pa, pn, pc, pl⟩ = (decide (1 < t.toNat) && knB ts t.toNat) := rfl
      have eM : mustB ts ⟨t, pa, pn, pc, pl⟩ = (decide (t.toNat < 128) || knB ts t.toNat) := rfl
      rw [eS] at HS
      rw [eM] at HM
      have hbs := hb.size
      have HS' : Hid (sel ts (ps.take (j + 1)) = sel ts (ps.take j) ++ if (decide (1 < t.toNat) && knB ts t.toNat) = true then [⟨t, pa, pn, pc, pl⟩] else []) := HS
      have HM' : Hid ((ps.take (j + 1)).all (mustB ts) = (b && (decide (t.toNat < 128) || knB ts t.toNat))) := HM
      clear HS HM eS eM
      generalize knB ts t.toNat = q at *
      simp only at c0 c1
      by_cases h0 : t.toNat ≤ 1
      · have hsame : sel ts (ps.take (j + 1)) = sel ts (ps.take j) := by rw [HS'.out, decide_eq_false (by omega)]; simp
        have hmust : (ps.take (j + 1)).all (mustB ts) = b := by rw [HM'.out, decide_eq_true (by omega)]; simp
        have HH : Hid (sel ts (ps.take (j + 1)) = sel ts (ps.take j) ∧ (ps.take (j + 1)).all (mustB ts) = b) := ⟨hsame, hmust⟩
        clear hsame hmust HS' HM'
        by_cases h00 : t.toNat = 0
        · rw [h00] at c0 K6 ht
          clear h0
          go_wp2
          go_roundw
          case rel => exact ⟨j + 1, m, b, by omega, by go_num, rfl, HH.out.2.symm, by show _ = _; rw [HH.out.1]; exact hm.out, by omega, by rw [HH.out.1]; exact hown.alloc _, hb.alloc hbs _⟩
          case measure => simp [intOf]; omega
        · have h01 : t.toNat = 1 := by omega
          rw [h01] at c0 K6 ht
          clear h0 h00
          go_wp2
          go_roundw
          case rel => exact ⟨j + 1, m, b, by omega, by go_num, rfl, HH.out.2.symm, by show _ = _; rw [HH.out.1]; exact hm.out, by omega, by rw [HH.out.1]; exact hown.alloc _, hb.alloc hbs _⟩
          case measure => simp [intOf]; omega
      · have n0 : ((t.toNat : Int) == 0) = false := by simp; omega
        have n1 : ((t.toNat : Int) == 1) = false := by simp; omega
        have n2 : ¬ (t.toNat : Int) = 0 := by omega
        have n3 : ¬ (t.toNat : Int) = 1 := by omega
        have HS2 : Hid (sel ts (ps.take (j + 1)) = sel ts (ps.take j) ++ if q = true then [⟨t, pa, pn, pc, pl⟩] else []) := by show _ = _; rw [HS'.out, decide_eq_true (by omega)]; simp
        clear HS'
        by_cases h128 : t.toNat < 128
        · have HM2 : Hid ((ps.take (j + 1)).all (mustB ts) = b) := by show _ = _; rw [HM'.out, decide_eq_true h128]; simp
          have h128' : ¬ (128 : Int) ≤ (t.toNat : Int) := by omega
          clear HM'
          cases q with
          | true =>
            go_wp2_with (at_builtin; refine append_raw rfl (.tmp 49) (.tmp 51) rfl w4.heap.size u10 m (sel ts (ps.take j)) rfl ((hown.alloc _).alloc _) (wr.heap.size + 1) ⟨t, pa, pn, pc, pl⟩ 1 rfl (two_newR wr _ _ _) (by have := HN.out; omega) (by have := hb.size; simp; omega) ?_; intro v6 w6 own6 hg6)
            go_roundw
            case rel => exact ⟨j + 1, m + 1, b, by omega, by go_num, rfl, HM2.out.symm, by show _ = _; rw [HS2.out, hm.out]; simp, by omega, by rw [HS2.out]; simpa using own6, ((hb.alloc hbs _).alloc (by simp; omega) _).grown hg6 (by simp; omega) (fun k hk => (hown.lt k hk).1)⟩
            case measure => simp [intOf]; omega
          | false =>
            go_wp2
            go_roundw
            case rel => exact ⟨j + 1, m, b, by omega, by go_num, rfl, HM2.out.symm, by show _ = _; rw [HS2.out]; simpa using hm.out, by omega, by rw [HS2.out]; simpa using hown.alloc _, hb.alloc hbs _⟩
            case measure => simp [intOf]; omega
        · have h128' : (128 : Int) ≤ (t.toNat : Int) := by omega
          have HM2 : Hid ((ps.take (j + 1)).all (mustB ts) = (b && q)) := by show _ = _; rw [HM'.out, decide_eq_false h128]; simp
          clear HM'
          cases q with
          | true =>
            cases b with
            | true =>
              go_wp2_with (at_builtin; refine append_raw rfl (.tmp 49) (.tmp 51) rfl w4.heap.size u10 m (sel ts (ps.take j)) rfl ((hown.alloc _).alloc _) (wr.heap.size + 1) ⟨t, pa, pn, pc, pl⟩ 1 rfl (two_newR wr _ _ _) (by have := HN.out; omega) (by have := hb.size; simp; omega) ?_; intro v6 w6 own6 hg6)
              go_roundw
              case rel => exact ⟨j + 1, m + 1, true, by omega, by go_num, rfl, HM2.out.symm, by show _ = _; rw [HS2.out, hm.out]; simp, by omega, by rw [HS2.out]; simpa using own6, ((hb.alloc hbs _).alloc (by simp; omega) _).grown hg6 (by simp; omega) (fun k hk => (hown.lt k hk).1)⟩
              case measure => simp [intOf]; omega
            | false =>
              go_wp2_with (at_builtin; refine append_raw rfl (.tmp 49) (.tmp 51) rfl w4.heap.size u10 m (sel ts (ps.take j)) rfl ((hown.alloc _).alloc _) (wr.heap.size + 1) ⟨t, pa, pn, pc, pl⟩ 1 rfl (two_newR wr _ _ _) (by have := HN.out; omega) (by have := hb.size; simp; omega) ?_; intro v6 w6 own6 hg6)
              go_roundw
              case rel => exact ⟨j + 1, m + 1, false, by omega, by go_num, rfl, HM2.out.symm, by show _ = _; rw [HS2.out, hm.out]; simp, by omega, by rw [HS2.out]; simpa using own6, ((hb.alloc hbs _).alloc (by simp; omega) _).grown hg6 (by simp; omega) (fun k hk => (hown.lt k hk).1)⟩
              case measure => simp [intOf]; omega
          | false =>
            cases b with
            | true =>
              go_wp2
              go_roundw
              case rel => exact ⟨j + 1, m, false, by omega, by go_num, rfl, HM2.out.symm, by show _ = _; rw [HS2.out]; simpa using hm.out, by omega, by rw [HS2.out]; simpa using hown.alloc _, hb.alloc hbs _⟩
              case measure => simp [intOf]; omega
            | false =>
              go_wp2
              go_roundw
              case rel => exact ⟨j + 1, m, false, by omega, by go_num, rfl, HM2.out.symm, by show _ = _; rw [HS2.out]; simpa using hm.out, by omega, by rw [HS2.out]; simpa using hown.alloc _, hb.alloc hbs _⟩
              case measure => simp [intOf]; omega
    · obtain rfl : n = j := by omega
      go_wp2
      go_ret3
      have e : ps.take n = ps := List.take_of_length_le (by have := hn4.out; omega)
      rw [e] at hown hm hbm
      obtain ⟨a6, c6, rfl⟩ := own_shape2 hown
      have em := hm.out
      subst em
      have eb := hbm.out
      subst eb
      have ez := HZ.out
      subst ez
      exact ⟨a6, c6, ps, hk, rfl, own_le hown g4.size, (fun p hp => own_le ((bo4.below hb) p hp) g3.size), hle, g4.trans (hb.mono g4.size)⟩
end Go.Proofs.Ytaleclmccmeglaa
