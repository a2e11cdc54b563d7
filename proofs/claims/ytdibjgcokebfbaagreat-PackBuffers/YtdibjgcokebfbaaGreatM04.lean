/-
  The contract of tlv.set for every types: which of the 256 types are named.
-/
import Derived.Test.YtdibjgcokebfbaaGreatM03
import Derived.WalkKit
import Derived.ProofKit
import Derived.WalkSpells
import Derived.WalkLawsBesides
import Derived.Deep.MidRow
import Derived.Deep.RegionHeld3
import Derived.Laws.CopyOwn
import Derived.ChangeKeysEq
namespace Go.Proofs.YtdibjgcokebfbaaGreat
open Go.RowKit
set_option linter.unusedSimpArgs false

/-- Whether a type is named; all 256 of them. -/
def knB (ts : List UInt8) (i : Nat) : Bool := ts.any fun t => t.toNat == i
def kn (ts : List UInt8) : List Value := (List.range 256).map fun i => .bool (knB ts i)
theorem kn_len (ts : List UInt8) : (kn ts).length = 256 := by simp [kn]
theorem kn_get (ts : List UInt8) (i : Nat) (h : i < 256) : (kn ts)[i]? = some (.bool (knB ts i)) := by simp [kn, h]
theorem kn_set (ts : List UInt8) (j : Nat) (hj : j < ts.length) : (kn (ts.take j)).set ts[j].toNat (.bool true) = kn (ts.take (j + 1)) := by
  apply List.ext_getElem?
  intro i
  have ht := ts[j].toNat_lt
  by_cases hi : i < 256
  · rw [kn_get _ i hi, List.getElem?_set]
    have e : knB (ts.take (j + 1)) i = (knB (ts.take j) i || ts[j].toNat == i) := by
      unfold knB
      rw [List.take_succ_eq_append_getElem hj, List.any_append]
      simp
    rw [e]
    by_cases h : ts[j].toNat = i
    · rw [if_pos h, if_pos (by rw [kn_len]; omega)]
      simp [h]
    · rw [if_neg h, kn_get _ i hi]
      simp [h]
  · rw [List.getElem?_eq_none (by rw [List.length_set, kn_len]; omega), List.getElem?_eq_none (by rw [kn_len]; omega)]
def zerK : List Value := List.replicate 256 (.bool false)
theorem zerK_kn : zerK = kn [] := by
  apply List.ext_getElem?
  intro i
  by_cases hi : i < 256
  · rw [kn_get _ i hi]; unfold zerK; rw [List.getElem?_replicate, if_pos hi]; rfl
  · rw [List.getElem?_eq_none (by unfold zerK; rw [List.length_replicate]; omega), List.getElem?_eq_none (by rw [kn_len]; omega)]
theorem infoK : (Tryz.prog.info? 192).map (fun i => (i.zero, i.size, i.bytes)) = some (some (.agg zerK.toArray), 256, 256) := by kernel_rfl
theorem infoKs : (Tryz.prog.info? 192).map (·.size) = some 256 := by kernel_rfl
theorem run_alK (w : World) : (Instr.alloc 192 true (.tuple #[])).run Tryz.prog w = .ok (.pointer (some ⟨w.heap.size, 0, none⟩)) (w.alloc (.cells zerK.toArray 192)) := by
  obtain ⟨i, hi, hz, _, _⟩ := info_parts infoK
  generalize zerK.toArray = Z at *
  simp [Instr.alloc, zeroValue, typeInfo, hi, hz, newVar, newRow, newObj, Value.cells]
  rfl
theorem Row.setCells {t : TypeId} {g : Nat} : ∀ (vs pre : List Value) (w : World) (cs : List Value), Row w g t (pre ++ cs) → vs.length = cs.length → Row (w.setCells g pre.length vs) g t (pre ++ vs)
  | [], pre, w, cs, h, hl => by
    have : cs = [] := List.eq_nil_of_length_eq_zero hl.symm
    subst this
    exact h
  | v :: vs, pre, w, [], h, hl => by simp at hl
  | v :: vs, pre, w, c :: cs, h, hl => by
    rw [World.setCells]
    have h1 := h.set pre.length v
    have e : (pre ++ c :: cs).set pre.length v = (pre ++ [v]) ++ cs := by simp
    rw [e] at h1
    have h2 := Row.setCells vs (pre ++ [v]) _ cs h1 (by simpa using hl)
    rw [List.length_append] at h2
    simpa using h2
theorem grownBy_setCells (g : Nat) : ∀ (vs : List Value) (o : Nat) (w : World), w.grownBy (w.setCells g o vs) (some g)
  | [], _, w => World.grownBy.refl _ _
  | v :: r, o, w => by
    rw [World.setCells]
    exact grownBy_trans (grownBy_setCell w g o v) (grownBy_setCells g r (o + 1) _)
section
variable {ops : Array Oper} {rest : List Oper} {op : Oper} {a : Act} {w : World} {Q : Exit → Act → World → Prop}
theorem alK (hw : Region.wanted op (yielded ops a.tmps) = true) (ho : op.op = .alloc 192)
    (h : ∀ W, Below w.heap.size w W → Row W w.heap.size 192 (kn []) → wpList Tryz.prog ops Q rest (a.put op.dst (.pointer (some ⟨w.heap.size, 0, none⟩))) W) : wpList Tryz.prog ops Q (op :: rest) a w :=
  wpList_step fun K hK => by
    rw [if_pos hw]
    unfold Oper.wp execOp
    simp only [ho, Sem.run_bind, run_alK, Result.andThen_ok, Sem.run_pure]
    exact hK _ _ (h _ ((Below.refl _ _).alloc (Nat.le_refl _) _) (zerK_kn ▸ Row.new w _ _))
theorem ldK (x : Operand) (hw : Region.wanted op (yielded ops a.tmps) = true) (ho : op.op = .load 192 x) (b : Nat) (ts : List UInt8) (hx : a.eval x = .pointer (some ⟨b, 0, none⟩)) (hr : Row w b 192 (kn ts))
    (h : wpList Tryz.prog ops Q rest (a.put op.dst (.agg (kn ts).toArray)) w) : wpList Tryz.prog ops Q (op :: rest) a w :=
  wpList_step fun K hK => by
    rw [if_pos hw]
    exact wp_load_mid _ x ho b 0 hx (kn ts) _ hr.range Tryz.underlying192 rfl (by rw [infoKs, kn_len]) (hK _ _ h)
theorem stK (x y : Operand) (hw : Region.wanted op (yielded ops a.tmps) = true) (ho : op.op = .store 192 x y) (b : Nat) (ts us : List UInt8) (hx : a.eval x = .pointer (some ⟨b, 0, none⟩)) (hy : a.eval y = .agg (kn ts).toArray) (hr : Row w b 192 (kn us))
    (h : ∀ W, w.grownBy W (some b) → Row W b 192 (kn ts) → wpList Tryz.prog ops Q rest (a.put op.dst undef) W) : wpList Tryz.prog ops Q (op :: rest) a w :=
  wpList_step fun K hK => by
    rw [if_pos hw]
    refine wp_store_mid _ x y ho b 0 _ hx hy (by simpa using hr.there (n := (kn ts).length) (by rw [kn_len, kn_len]; exact Nat.le_refl _)) (by rw [infoKs]; simp [kn_len]) (all_oneCell_toArray (cs := kn ts) (by intro z hz; obtain ⟨_, _, rfl⟩ := List.mem_map.1 hz; rfl)) (hK _ _ (h _ (grownBy_setCells b _ _ _) ?_))
    have := Row.setCells (kn ts) [] w (kn us) hr (by rw [kn_len, kn_len])
    simpa using this
end
theorem lvK {w : World} {g : Nat} {ts : List UInt8} (h : Row w g 192 (kn ts)) : (loadVar 192 ⟨g, 0, none⟩).run Tryz.prog w = .ok (.agg (kn ts).toArray) w :=
  run_loadVar_mid w g 0 _ (kn ts) _ h.range Tryz.underlying192 rfl (by rw [infoKs, kn_len])

theorem set_any (a : Option Addr) (n c : Nat) (ts : List UInt8) (w : World) (hs : Src w a n c (bcells ts)) (hn : n ≤ 140737488355328) :
    Calls Tryz.prog 132 #[.slice a n c] w fun e w' => e = .returned (.agg (kn ts).toArray) ∧ Below w.heap.size w w' := by
  have HN : Hid (n = ts.length) := hs.blen
  go_enter Tryz.func132, Tryz.ntmps132
  go_wp2_with (first
    | (have k := r1; refine alK (by rfl) rfl ?_; intro w2 b2 r2; have r1' := r1.below b2 r1.lt; clear r1)
    | (refine alK (by rfl) rfl ?_; intro w1 b1 r1))
  have hlt1 : w.heap.size < w1.heap.size := k.lt
  go_loopw [8] (fun i wr => ∃ j : Nat, j ≤ n ∧ i = .int .i64 j ∧ Row wr w1.heap.size 192 (kn (ts.take j)) ∧ Row wr w.heap.size 192 (kn []) ∧ Below w.heap.size w wr) (fun i _ => n - (intOf i).toNat)
  case atStart => exact ⟨0, Nat.zero_le _, rfl, by simpa using r2, r1', b1.trans (b2.mono b1.size)⟩
  case round =>
    clear r2 r1' b2 k
    obtain ⟨j, hj, rfl, r2, r1, hb⟩ := hrel
    by_cases hlt : j < n
    · have hjk : j < ts.length := by have := HN.out; omega
      have hsw := hs.below hb hs.lt
      cases a with
      | none => exact absurd (hs.bare rfl).1 (by omega)
      | some ad =>
        have c0 := hsw.byteAt j hjk
        have HK := kn_set ts j hjk
        have ht := ts[j].toNat_lt
        generalize ts[j].toNat = t at *
        have c1 : wr.cell? ⟨w1.heap.size, t, none⟩ = some (.bool (knB (ts.take j) t)) := by rw [r2.cell]; exact kn_get _ _ ht
        have f1 := r2.frozen t
        have R2 : Hid (Row wr w1.heap.size 192 (kn (ts.take j))) := r2
        have R1 : Hid (Row wr w.heap.size 192 (kn [])) := r1
        have HK' : Hid ((kn (ts.take j)).set t (.bool true) = kn (ts.take (j + 1))) := HK
        clear HK r1 r2
        go_wp2
        go_roundw
        case rel => exact ⟨j + 1, by omega, by go_num, HK'.out ▸ R2.out.set t (.bool true), R1.out.grown (grownBy_setCell _ _ _ _) (fun e => by have := Option.some.inj e; omega), hb.setCell (p := ⟨w1.heap.size, t, none⟩) (Nat.le_of_lt hlt1) _⟩
        case measure => simp [intOf]; omega
    · obtain rfl : n = j := by omega
      have e : ts.take n = ts := List.take_of_length_le (by have := HN.out; omega)
      rw [e] at r2
      go_wp2_with (first
        | (refine stK (.tmp 2) (.tmp 15) (by rfl) rfl w.heap.size ts [] rfl rfl r1 ?_; intro w4 hg4 r4)
        | (refine ldK (.tmp 3) (by rfl) rfl w1.heap.size ts rfl r2 ?_))
      exact bodyPost_ret (retC rfl _ _ 0 rfl (lvK r4)) rfl ⟨rfl, hb.grown hg4 hb.size (fun k hk => by cases hk; exact Nat.le_refl _)⟩
end Go.Proofs.YtdibjgcokebfbaaGreat

namespace Go.Proofs.YtdibjgcokebfbaaGreat
open Go.RowKit
set_option linter.unusedSimpArgs false

/-- Which pieces are told; whether all that must be known are. -/
def selB (ts : List UInt8) (p : Pc) : Bool := decide (1 < p.t.toNat) && knB ts p.t.toNat
def mustB (ts : List UInt8) (p : Pc) : Bool := decide (p.t.toNat < 128) || knB ts p.t.toNat
def sel (ts : List UInt8) (ps : List Pc) : List Pc := ps.filter (selB ts)
theorem sel_take (ts : List UInt8) (ps : List Pc) (j : Nat) (hj : j < ps.length) : sel ts (ps.take (j + 1)) = sel ts (ps.take j) ++ (if selB ts ps[j] then [ps[j]] else []) := by
  unfold sel
  rw [List.take_succ_eq_append_getElem hj, List.filter_append]
  congr 1
  cases h : selB ts ps[j] <;> simp [h]
theorem must_take (ts : List UInt8) (ps : List Pc) (j : Nat) (hj : j < ps.length) : (ps.take (j + 1)).all (mustB ts) = ((ps.take j).all (mustB ts) && mustB ts ps[j]) := by
  rw [List.take_succ_eq_append_getElem hj, List.all_append]; simp
theorem sel_le (ts : List UInt8) (ps : List Pc) : (sel ts ps).length ≤ ps.length := List.length_filter_le _ _
/-- What Sub tells. -/
def Subs (w : World) (ts l : List UInt8) (e : Ending) (w' : World) : Prop :=
  ∃ a c ps, keys ps = (splL l).1 ∧ e = .returned (.tuple #[.slice a (sel ts ps).length c, .bool (ps.all (mustB ts)), .int .i64 (splL l).2]) ∧ w'.ownsRow w.heap.size 94 2 (.slice a (sel ts ps).length c) (sel ts ps).length (rcs (sel ts ps)) ∧ Bods w.heap.size w' ps ∧ ps.length ≤ l.length ∧ Below w.heap.size w w'
theorem Bods.below {B : Nat} {w w' : World} {ps : List Pc} (h : Bods B w ps) (hb : Below w.heap.size w w') : Bods B w' ps := h.keep (grownBy_below none hb) (fun _ _ => .inr rfl)

theorem two_newR (w : World) (o : Obj) (t : TypeId) (cs : List Value) : Row ((w.alloc o).alloc (.cells cs.toArray t)) (w.heap.size + 1) t cs := by
  have := Row.new (w.alloc o) t cs
  rwa [World.size_alloc] at this
set_option maxHeartbeats 1000000 in
theorem sub_any (a0 : Option Addr) (n0 c0 : Nat) (ts : List UInt8) (a1 : Option Addr) (n1 c1 : Nat) (l : List UInt8) (w : World) (h0 : Src w a0 n0 c0 (bcells ts)) (h1 : Src w a1 n1 c1 (bcells l)) (hn0 : n0 ≤ 140737488355328) (hn1 : n1 ≤ 3000000000000) :
    Calls Tryz.prog 127 #[.slice a0 n0 c0, .slice a1 n1 c1] w (Subs w ts l) := by
  have HN : Hid (n1 = l.length) := h1.blen
  obtain ⟨z, HZ⟩ : ∃ z, Hid (z = (splL l).2) := ⟨_, rfl⟩
  have HSP : Hid (∀ W a c, Src W a n1 c (bcells l) → Calls Tryz.prog 42 #[.slice a n1 c] W fun e w' => ∃ a c ps n, Hid (n = ps.length) ∧ e = .returned (.tuple #[.slice a n c, .int .i64 z]) ∧ keys ps = (splL l).1 ∧ Rws w' a n ps ∧ Bods W.heap.size w' ps ∧ ps.length ≤ l.length ∧ Below W.heap.size W w') := by
    intro W a c h
    refine (split_any a n1 c l W h hn1).mono ?_
    rintro e w' ⟨a, c, ps, rfl, k1, k2, k3, k4, k5⟩
    rw [HZ.out]
    exact ⟨a, c, ps, _, (rfl : _ = _), rfl, k1, own_rws k2 k3, k3, k4, k5⟩
  go_enter Tryz.func127, Tryz.ntmps127
  go_wp2_with (first
    | (go_at_call 42; refine (HSP.out _ _ _ (h1.below g3 h1.lt)).mono ?_; rintro e w4 ⟨a4, c4, ps, n, hn4, rfl, hk, r4, bo4, hle, b4⟩; have g4 := g3.trans (b4.mono g3.size); have K4 := K3.below b4 K3.lt)
    | (refine stK (.tmp 7) (.tmp 15) (by rfl) rfl w1.heap.size ts [] rfl rfl K2 ?_; intro w3 hg3 K3; have g3 := (b1.trans (b2.mono b1.size)).grown hg3 (Nat.le_trans b1.size b2.size) (fun k hk => by cases hk; exact b1.size))
    | (refine alK (by rfl) rfl ?_; intro w2 b2 K2)
    | (go_at_call 132; refine (set_any a0 n0 c0 ts w h0 hn0).mono ?_; rintro e w1 ⟨rfl, b1⟩))
  have hlt1 : w1.heap.size < w4.heap.size := K4.lt
  have hnn : n ≤ 3000000000000 := by have := hn4.out; have := HN.out; omega
  go_loopw [10, 11, 23] (fun v en i wr => ∃ (j m : Nat) (b : Bool), j ≤ n ∧ i = .int .i64 j ∧ en = .bool b ∧ Hid (b = (ps.take j).all (mustB ts)) ∧ Hid (m = (sel ts (ps.take j)).length) ∧ m ≤ j ∧ wr.ownsRow w4.heap.size 94 2 v m (rcs (sel ts (ps.take j))) ∧ Below w4.heap.size w4 wr) (fun _ _ i _ => n - (intOf i).toNat)
  case atStart => exact ⟨0, 0, true, Nat.zero_le _, rfl, rfl, (rfl : _ = _), (rfl : _ = _), Nat.le_refl _, World.ownsRow_nil _ _ _ _, Below.refl _ _⟩
  case round =>
    obtain ⟨j, m, b, hj, rfl, rfl, hbm, hm, hmj, hown, hb⟩ := hrel
    by_cases hlt : j < n
    · have hjk : j < ps.length := by have := hn4.out; omega
      obtain ⟨g, o, rfl, c0, c1⟩ := (r4.below hb).at hjk
      have HS := sel_take ts ps j hjk
      have HM := must_take ts ps j hjk
      rw [← hbm.out] at HM
      generalize ps[j] = p at *
      obtain ⟨t, pa, pn, pc, pl⟩ := p
      have ht := t.toNat_lt
      have K6 := ((K4.below hb hlt1).alloc (.cells #[.int .u8 (t.toNat : Int), .slice pa pn pc] 94)).cell t.toNat
      rw [kn_get _ _ ht] at K6
      have eS : selB ts ⟨t, pa, pn, pc, pl⟩ = (decide (1 < t.toNat) && knB ts t.toNat) := rfl
      have eM : mustB ts ⟨t, pa, pn, pc, pl⟩ = (decide (t.toNat < 128) || knB ts t.toNat) := rfl
      rw [eS] at HS
      rw [eM] at HM
      have hbs := hb.size
      have HS' : Hid (sel ts (ps.take (j + 1)) = sel ts (ps.take j) ++ if (decide (1 < t.toNat) && knB ts t.toNat) = true then [⟨t, pa, pn, pc, pl⟩] else []) := HS
      have HM' : Hid ((ps.take (j + 1)).all (mustB ts) = (b && (decide (t.toNat < 128) || knB ts t.toNat))) := HM
      clear HS HM eS eM
      generalize knB ts t.toNat = q at *
      simp only at c0 c1
      by_cases h0 : t.toNat ≤ 1
      · have hsame : sel ts (ps.take (j + 1)) = sel ts (ps.take j) := by rw [HS'.out, decide_eq_false (by omega)]; simp
        have hmust : (ps.take (j + 1)).all (mustB ts) = b := by rw [HM'.out, decide_eq_true (by omega)]; simp
        have HH : Hid (sel ts (ps.take (j + 1)) = sel ts (ps.take j) ∧ (ps.take (j + 1)).all (mustB ts) = b) := ⟨hsame, hmust⟩
        clear hsame hmust HS' HM'
        by_cases h00 : t.toNat = 0
        · rw [h00] at c0 K6 ht
          clear h0
          go_wp2
          go_roundw
          case rel => exact ⟨j + 1, m, b, by omega, by go_num, rfl, HH.out.2.symm, by show _ = _; rw [HH.out.1]; exact hm.out, by omega, by rw [HH.out.1]; exact hown.alloc _, hb.alloc hbs _⟩
          case measure => simp [intOf]; omega
        · have h01 : t.toNat = 1 := by omega
          rw [h01] at c0 K6 ht
          clear h0 h00
          go_wp2
          go_roundw
          case rel => exact ⟨j + 1, m, b, by omega, by go_num, rfl, HH.out.2.symm, by show _ = _; rw [HH.out.1]; exact hm.out, by omega, by rw [HH.out.1]; exact hown.alloc _, hb.alloc hbs _⟩
          case measure => simp [intOf]; omega
      · have n0 : ((t.toNat : Int) == 0) = false := by simp; omega
        have n1 : ((t.toNat : Int) == 1) = false := by simp; omega
        have n2 : ¬ (t.toNat : Int) = 0 := by omega
        have n3 : ¬ (t.toNat : Int) = 1 := by omega
        have HS2 : Hid (sel ts (ps.take (j + 1)) = sel ts (ps.take j) ++ if q = true then [⟨t, pa, pn, pc, pl⟩] else []) := by show _ = _; rw [HS'.out, decide_eq_true (by omega)]; simp
        clear HS'
        by_cases h128 : t.toNat < 128
        · have HM2 : Hid ((ps.take (j + 1)).all (mustB ts) = b) := by show _ = _; rw [HM'.out, decide_eq_true h128]; simp
          have h128' : ¬ (128 : Int) ≤ (t.toNat : Int) := by omega
          clear HM'
          cases q with
          | true =>
            go_wp2_with (at_builtin; refine append_raw rfl (.tmp 49) (.tmp 51) rfl w4.heap.size u10 m (sel ts (ps.take j)) rfl ((hown.alloc _).alloc _) (wr.heap.size + 1) ⟨t, pa, pn, pc, pl⟩ 1 rfl (two_newR wr _ _ _) (by have := HN.out; omega) (by have := hb.size; simp; omega) ?_; intro v6 w6 own6 hg6)
            go_roundw
            case rel => exact ⟨j + 1, m + 1, b, by omega, by go_num, rfl, HM2.out.symm, by show _ = _; rw [HS2.out, hm.out]; simp, by omega, by rw [HS2.out]; simpa using own6, ((hb.alloc hbs _).alloc (by simp; omega) _).grown hg6 (by simp; omega) (fun k hk => (hown.lt k hk).1)⟩
            case measure => simp [intOf]; omega
          | false =>
            go_wp2
            go_roundw
            case rel => exact ⟨j + 1, m, b, by omega, by go_num, rfl, HM2.out.symm, by show _ = _; rw [HS2.out]; simpa using hm.out, by omega, by rw [HS2.out]; simpa using hown.alloc _, hb.alloc hbs _⟩
            case measure => simp [intOf]; omega
        · have h128' : (128 : Int) ≤ (t.toNat : Int) := by omega
          have HM2 : Hid ((ps.take (j + 1)).all (mustB ts) = (b && q)) := by show _ = _; rw [HM'.out, decide_eq_false h128]; simp
          clear HM'
          cases q with
          | true =>
            cases b with
            | true =>
              go_wp2_with (at_builtin; refine append_raw rfl (.tmp 49) (.tmp 51) rfl w4.heap.size u10 m (sel ts (ps.take j)) rfl ((hown.alloc _).alloc _) (wr.heap.size + 1) ⟨t, pa, pn, pc, pl⟩ 1 rfl (two_newR wr _ _ _) (by have := HN.out; omega) (by have := hb.size; simp; omega) ?_; intro v6 w6 own6 hg6)
              go_roundw
              case rel => exact ⟨j + 1, m + 1, true, by omega, by go_num, rfl, HM2.out.symm, by show _ = _; rw [HS2.out, hm.out]; simp, by omega, by rw [HS2.out]; simpa using own6, ((hb.alloc hbs _).alloc (by simp; omega) _).grown hg6 (by simp; omega) (fun k hk => (hown.lt k hk).1)⟩
              case measure => simp [intOf]; omega
            | false =>
              go_wp2_with (at_builtin; refine append_raw rfl (.tmp 49) (.tmp 51) rfl w4.heap.size u10 m (sel ts (ps.take j)) rfl ((hown.alloc _).alloc _) (wr.heap.size + 1) ⟨t, pa, pn, pc, pl⟩ 1 rfl (two_newR wr _ _ _) (by have := HN.out; omega) (by have := hb.size; simp; omega) ?_; intro v6 w6 own6 hg6)
              go_roundw
              case rel => exact ⟨j + 1, m + 1, false, by omega, by go_num, rfl, HM2.out.symm, by show _ = _; rw [HS2.out, hm.out]; simp, by omega, by rw [HS2.out]; simpa using own6, ((hb.alloc hbs _).alloc (by simp; omega) _).grown hg6 (by simp; omega) (fun k hk => (hown.lt k hk).1)⟩
              case measure => simp [intOf]; omega
          | false =>
            cases b with
            | true =>
              go_wp2
              go_roundw
              case rel => exact ⟨j + 1, m, false, by omega, by go_num, rfl, HM2.out.symm, by show _ = _; rw [HS2.out]; simpa using hm.out, by omega, by rw [HS2.out]; simpa using hown.alloc _, hb.alloc hbs _⟩
              case measure => simp [intOf]; omega
            | false =>
              go_wp2
              go_roundw
              case rel => exact ⟨j + 1, m, false, by omega, by go_num, rfl, HM2.out.symm, by show _ = _; rw [HS2.out]; simpa using hm.out, by omega, by rw [HS2.out]; simpa using hown.alloc _, hb.alloc hbs _⟩
              case measure => simp [intOf]; omega
    · obtain rfl : n = j := by omega
      go_wp2
      go_ret3
      have e : ps.take n = ps := List.take_of_length_le (by have := hn4.out; omega)
      rw [e] at hown hm hbm
      obtain ⟨a6, c6, rfl⟩ := own_shape2 hown
      have em := hm.out
      subst em
      have eb := hbm.out
      subst eb
      have ez := HZ.out
      subst ez
      exact ⟨a6, c6, ps, hk, rfl, own_le hown g4.size, (fun p hp => own_le ((bo4.below hb) p hp) g3.size), hle, g4.trans (hb.mono g4.size)⟩
end Go.Proofs.YtdibjgcokebfbaaGreat

namespace Go.Proofs.YtdibjgcokebfbaaGreat
open Go.RowKit
set_option linter.unusedSimpArgs false

theorem bcells_get {l : List UInt8} {j : Nat} {b : UInt8} (h : l[j]? = some b) : (bcells l)[j]? = some (.int .u8 b.toNat) := by simp [bcells, h]
/-- An address: sixteen bytes. -/
structure Ad where
  l : List UInt8
  len : l.length = 16
theorem Ad.ext {a b : Ad} (h : a.l = b.l) : a = b := by
  cases a; cases b; cases h; rfl
/-- A prefix. -/
structure Pf where
  a : Ad
  n : Int
structure Pr where
  d : Pf
  s : Pf
def acells (a : Ad) : List Value := bcells a.l
def pcells (p : Pf) : List Value := acells p.a ++ [.int .i64 p.n]
def qcells (q : Pr) : List Value := pcells q.d ++ pcells q.s
theorem acells_len (a : Ad) : (acells a).length = 16 := by simp [acells, bcells, a.len]
theorem pcells_len (p : Pf) : (pcells p).length = 17 := by simp [pcells, acells_len]
theorem qcells_len (p : Pr) : (qcells p).length = 34 := by simp [qcells, pcells_len]
theorem acells_one (a : Ad) : ∀ u ∈ acells a, u.oneCell' = true := bcells_one _
theorem pcells_one (p : Pf) : ∀ u ∈ pcells p, u.oneCell' = true := by
  intro u hu
  rcases List.mem_append.1 hu with h | h
  · exact acells_one _ u h
  · simp at h; subst h; rfl
theorem qcells_one (p : Pr) : ∀ u ∈ qcells p, u.oneCell' = true := by
  intro u hu
  rcases List.mem_append.1 hu with h | h
  · exact pcells_one _ u h
  · exact pcells_one _ u h

theorem infoA : (Tryz.prog.info? 23).map (·.size) = some 16 := by kernel_rfl
theorem infoP : (Tryz.prog.info? 40).map (·.size) = some 17 := by kernel_rfl
theorem infoQ : (Tryz.prog.info? 42).map (·.size) = some 34 := by kernel_rfl

theorem rangeAt_new (w : World) (cs : List Value) (t : TypeId) : (w.alloc (.cells cs.toArray t)).rangeAt w.heap.size 0 cs := by
  intro j v hv
  have h : (w.alloc (.cells cs.toArray t)).heap[w.heap.size]? = some (.cells cs.toArray t (0, 0)) := by
    show (w.heap.push _)[w.heap.size]? = _
    simp
  rw [Nat.zero_add, cell_of_row _ _ j cs.toArray t (0, 0) h]
  simpa using hv
theorem rangeAt_below {w w' : World} {B b o : Nat} {cs : List Value} (h : w.rangeAt b o cs) (hb : Below B w w') (hlt : b < B) : w'.rangeAt b o cs := fun j v hv =>
  (hb.cell (p := ⟨b, o + j, none⟩) hlt).trans (h j v hv)
theorem rangeAt_left {w : World} {b o : Nat} {cs ds : List Value} (h : w.rangeAt b o (cs ++ ds)) : w.rangeAt b o cs := fun j v hv =>
  h j v (by rw [List.getElem?_append_left (List.getElem?_eq_some_iff.1 hv).1]; exact hv)
theorem rangeAt_right {w : World} {b o k : Nat} {cs ds : List Value} (h : w.rangeAt b o (cs ++ ds)) (hk : cs.length = k) : w.rangeAt b (o + k) ds := fun j v hv => by
  subst hk
  have := h (cs.length + j) v (by rw [List.getElem?_append_right (by omega)]; simpa using hv)
  rwa [← Nat.add_assoc] at this
/-- An address, a prefix, a pair that lie somewhere. -/
def LA (w : World) (b o : Nat) (a : Ad) : Prop := w.rangeAt b o (acells a)
def LP (w : World) (b o : Nat) (p : Pf) : Prop := w.rangeAt b o (pcells p)
def LQ (w : World) (b o : Nat) (p : Pr) : Prop := w.rangeAt b o (qcells p)
theorem LP.a {w : World} {b o : Nat} {p : Pf} (h : LP w b o p) : LA w b o p.a := rangeAt_left h
theorem LP.n {w : World} {b o : Nat} {p : Pf} (h : LP w b o p) : w.cell? ⟨b, o + 16, none⟩ = some (.int .i64 p.n) := by
  have := rangeAt_right h (acells_len p.a) 0 (.int .i64 p.n) rfl
  simpa using this
theorem LQ.d {w : World} {b o : Nat} {p : Pr} (h : LQ w b o p) : LP w b o p.d := rangeAt_left h
theorem LQ.s {w : World} {b o : Nat} {p : Pr} (h : LQ w b o p) : LP w b (o + 17) p.s := rangeAt_right h (pcells_len p.d)

theorem name_world {R P : World → Prop} (w : World) (h : P w) (k : ∀ W, P W → R W) : R w := k w h
theorem take_get {α : Type} {l : List α} {k j : Nat} {v : α} (h : (l.take k)[j]? = some v) : l[j]? = some v := by
  rw [List.getElem?_take] at h
  split at h
  · exact h
  · cases h
theorem Row.drew {w : World} {g : Nat} {t : TypeId} {cs : List Value} (h : Row w g t cs) : Row w.drew g t cs := h
theorem Row.setOther {w : World} {g : Nat} {t : TypeId} {cs : List Value} (h : Row w g t cs) (g' j : Nat) (v : Value) (hne : g' ≠ g) : Row (w.setCell ⟨g', j, none⟩ v) g t cs := by
  unfold Row at *
  simp [World.setCell, Array.getElem?_modify, h, hne]
/-! ### Regions that draw their order -/
theorem at_lit {ops : Array Oper} {i : Nat} {o : Oper} {rest : List Oper} (h : ops.toList.drop i = o :: rest) : ops[i]? = some o := by
  have e : (ops.toList.drop i)[0]? = some o := by rw [h]; rfl
  rw [List.getElem?_drop] at e
  simpa using e
theorem take_lit {P : Program} {md : Region.Mode} {ops : Array Oper} {Q : Exit → Act → World → Prop} {S : World → Prop} {i : Nat} {oi : Oper} {rest : List Oper} {v : Value} {fuel : Nat} {listed : Array Bool} {a : Act} {w : World} (hi : ops.toList.drop i = oi :: rest)
    (hs : Region.noSelect ops = true) (hf : Region.free md ops listed i = true) (hr : (Region.ready md ops listed).contains i = true)
    (hQ : ∀ c a w, Q (.panic c) (a.put oi.dst v) w → Q (.panic c) a w) (hy : YieldsIf P ops S oi v a) (hS : S w)
    (h : wpAnyH P md ops Q S fuel (listed.setIfInBounds i true) (a.put oi.dst v) w) : wpAnyH P md ops Q S (fuel + 1) listed a w :=
  wpAnyH_take (at_lit hi) hs hf hr hQ hy hS h
theorem tA {P : Program} {md : Region.Mode} {ops : Array Oper} {Q : Exit → Act → World → Prop} {S : World → Prop} (i : Nat) {oi : Oper} {rest : List Oper} {v : Value} {fuel : Nat} {listed : Array Bool} {a a' : Act} {w : World} (h : wpAnyH P md ops Q S fuel (listed.setIfInBounds i true) a' w) (hi : ops.toList.drop i = oi :: rest := by rfl)
    (hs : Region.noSelect ops = true := by kernel_rfl) (hf : Region.free md ops listed i = true := by kernel_rfl) (hr : (Region.ready md ops listed).contains i = true := by kernel_rfl)
    (hw : Region.wanted oi (yielded ops a.tmps) = true := by rfl) (hv : ∀ w, S w → (execOp a.eval oi).run P w = .ok (.value v) w := by (intro w hSw; (try dsimp only at hSw); go_simp <;> with_reducible rfl))
    (hQ : ∀ c a w, Q (.panic c) (a.put oi.dst v) w → Q (.panic c) a w := by exact fun _ _ _ h => h) (hS : S w := by assumption)
    (ha : a.put oi.dst v = a' := by (try simp only [Act.put, List.setIfInBounds_toArray, List.set_cons_zero, List.set_cons_succ]); exact rfl) : wpAnyH P md ops Q S (fuel + 1) listed a w := by
  subst ha
  exact take_lit hi hs hf hr hQ (.inl ⟨hw, hv⟩) hS h
theorem tL {P : Program} {md : Region.Mode} {ops : Array Oper} {Q : Exit → Act → World → Prop} {S : World → Prop} (i : Nat) {oi : Oper} {rest : List Oper} {v : Value} {fuel : Nat} {listed : Array Bool} {a a' : Act} {w : World} (hi : ops.toList.drop i = oi :: rest) (hy : YieldsIf P ops S oi v a) (h : wpAnyH P md ops Q S fuel (listed.setIfInBounds i true) a' w)
    (hs : Region.noSelect ops = true := by kernel_rfl) (hf : Region.free md ops listed i = true := by kernel_rfl) (hr : (Region.ready md ops listed).contains i = true := by kernel_rfl)
    (hQ : ∀ c a w, Q (.panic c) (a.put oi.dst v) w → Q (.panic c) a w := by exact fun _ _ _ h => h) (hS : S w := by assumption)
    (ha : a.put oi.dst v = a' := by (try simp only [Act.put, List.setIfInBounds_toArray, List.set_cons_zero, List.set_cons_succ]); exact rfl) : wpAnyH P md ops Q S (fuel + 1) listed a w := by
  subst ha
  exact take_lit hi hs hf hr hQ hy hS h
theorem tN {P : Program} {md : Region.Mode} {ops : Array Oper} {Q : Exit → Act → World → Prop} {S : World → Prop} (i : Nat) {oi : Oper} {rest : List Oper} {fuel : Nat} {listed : Array Bool} {a a' : Act} {w : World} (h : wpAnyH P md ops Q S fuel (listed.setIfInBounds i true) a' w) (hi : ops.toList.drop i = oi :: rest := by rfl)
    (hs : Region.noSelect ops = true := by kernel_rfl) (hf : Region.free md ops listed i = true := by kernel_rfl) (hr : (Region.ready md ops listed).contains i = true := by kernel_rfl)
    (hw : Region.wanted oi (yielded ops a.tmps) = false := by rfl)
    (hQ : ∀ c a w, Q (.panic c) (a.put oi.dst undef) w → Q (.panic c) a w := by exact fun _ _ _ h => h) (hS : S w := by assumption)
    (ha : a.put oi.dst undef = a' := by (try simp only [Act.put, List.setIfInBounds_toArray, List.set_cons_zero, List.set_cons_succ]); exact rfl) : wpAnyH P md ops Q S (fuel + 1) listed a w := by
  subst ha
  exact take_lit hi hs hf hr hQ (.inr ⟨hw, rfl⟩) hS h
theorem cL {P : Program} {md : Region.Mode} {ops : Array Oper} {Q : Exit → Act → World → Prop} {S : World → Prop} {fuel : Nat} {listed : Array Bool} {a : Act} {w : World} {i : Nat} {o : Oper} {rest : List Oper} {rs : List Nat}
    (h : ∀ K' : Act → World → Prop, Shut (∀ a w, S w → (S w → wpAnyH P md ops Q S fuel (listed.setIfInBounds i true) a w) → K' a w) → if Region.wanted o (yielded ops a.tmps) = true then Oper.wp P o a w K' Q else K' (a.put o.dst undef) w)
    (hs : AllReadyH P md ops Q S fuel listed a w rs) (ho : ops.toList.drop i = o :: rest := by rfl) : AllReadyH P md ops Q S fuel listed a w (i :: rs) := AllReadyH.cons (at_lit ho) h hs
theorem cE {P : Program} {md : Region.Mode} {ops : Array Oper} {Q : Exit → Act → World → Prop} {S : World → Prop} {fuel : Nat} {listed : Array Bool} {a : Act} {w : World} {i : Nat} {o : Oper} {rest : List Oper}
    (h : ∀ K' : Act → World → Prop, Shut (∀ a w, S w → (S w → wpAnyH P md ops Q S fuel (listed.setIfInBounds i true) a w) → K' a w) → if Region.wanted o (yielded ops a.tmps) = true then Oper.wp P o a w K' Q else K' (a.put o.dst undef) w)
    (ho : ops.toList.drop i = o :: rest := by rfl) : AllReadyH P md ops Q S fuel listed a w [i] := AllReadyH.cons (at_lit ho) h .nil
theorem rM {P : Program} {md : Region.Mode} {ops : Array Oper} {Q : Exit → Act → World → Prop} {S : World → Prop} (rs : List Nat) {fuel : Nat} {listed : Array Bool} {a : Act} {w : World} (h : AllReadyH P md ops Q S fuel listed a w rs) (hr : Region.ready md ops listed = rs := by kernel_rfl) (hne : rs ≠ [] := by simp) : wpAnyH P md ops Q S (fuel + 1) listed a w := wpAnyH_ready hr hne h
theorem r1 {P : Program} {md : Region.Mode} {ops : Array Oper} {Q : Exit → Act → World → Prop} {S : World → Prop} (i : Nat) {fuel : Nat} {listed : Array Bool} {a : Act} {w : World} {o : Oper} {rest : List Oper}
    (h : ∀ K' : Act → World → Prop, Shut (∀ a w, S w → (S w → wpAnyH P md ops Q S fuel (listed.setIfInBounds i true) a w) → K' a w) → if Region.wanted o (yielded ops a.tmps) = true then Oper.wp P o a w K' Q else K' (a.put o.dst undef) w)
    (ho : ops.toList.drop i = o :: rest := by rfl) (hr : Region.ready md ops listed = [i] := by kernel_rfl) : wpAnyH P md ops Q S (fuel + 1) listed a w := wpAnyH_ready hr (by simp) (AllReadyH.cons (at_lit ho) h .nil)
theorem oK {P : Program} {md : Region.Mode} {ops : Array Oper} {Q : Exit → Act → World → Prop} {S : World → Prop} {fuel : Nat} {l : Array Bool} {a a' : Act} {w : World} {K : Act → World → Prop} (hK : Shut (∀ a w, S w → (S w → wpAnyH P md ops Q S fuel l a w) → K a w)) (hS : S w) (h : S w → wpAnyH P md ops Q S fuel l a' w)
    (ha : a = a' := by (try simp only [Act.put, List.setIfInBounds_toArray, List.set_cons_zero, List.set_cons_succ]); exact rfl) : K a w := by
  subst ha
  exact hK.out _ _ hS h
theorem dN {P : Program} {md : Region.Mode} {ops : Array Oper} {Q : Exit → Act → World → Prop} {S : World → Prop} {fuel : Nat} {listed : Array Bool} {a : Act} {w : World} (h : Q .normal a w) (hr : Region.ready md ops listed = [] := by kernel_rfl) : wpAnyH P md ops Q S fuel listed a w := wpAnyH_done hr h _
theorem yA {ops : Array Oper} {S : World → Prop} {op : Oper} {a : Act} {b o : Nat} {x : Operand} (c : Ad) (hS : ∀ w, S w → LA w b o c) (hw : Region.wanted op (yielded ops a.tmps) = true) (ho : op.op = .load 23 x) (hx : a.eval x = .pointer (some ⟨b, o, none⟩)) : YieldsIf Tryz.prog ops S op (Value.agg (acells c).toArray) a :=
  yieldsIf_load_mid hw _ x ho b o hx (acells c) _ hS Tryz.underlying23 rfl (by rw [infoA, acells_len])
theorem yP {ops : Array Oper} {S : World → Prop} {op : Oper} {a : Act} {b o : Nat} {x : Operand} (c : Pf) (hS : ∀ w, S w → LP w b o c) (hw : Region.wanted op (yielded ops a.tmps) = true) (ho : op.op = .load 40 x) (hx : a.eval x = .pointer (some ⟨b, o, none⟩)) : YieldsIf Tryz.prog ops S op (Value.agg (pcells c).toArray) a :=
  yieldsIf_load_mid hw _ x ho b o hx (pcells c) _ hS Tryz.underlying40 rfl (by rw [infoP, pcells_len])
theorem yQ {ops : Array Oper} {S : World → Prop} {op : Oper} {a : Act} {b o : Nat} {x : Operand} (c : Pr) (hS : ∀ w, S w → LQ w b o c) (hw : Region.wanted op (yielded ops a.tmps) = true) (ho : op.op = .load 42 x) (hx : a.eval x = .pointer (some ⟨b, o, none⟩)) : YieldsIf Tryz.prog ops S op (Value.agg (qcells c).toArray) a :=
  yieldsIf_load_mid hw _ x ho b o hx (qcells c) _ hS Tryz.underlying42 rfl (by rw [infoQ, qcells_len])

/-! ### Loads of whole addresses, prefixes, pairs -/
section
variable {ops : Array Oper} {rest : List Oper} {op : Oper} {a : Act} {w : World} {Q : Exit → Act → World → Prop}
theorem ldA (x : Operand) (hw : Region.wanted op (yielded ops a.tmps) = true) (ho : op.op = .load 23 x) (b o : Nat) (c : Ad) (hx : a.eval x = .pointer (some ⟨b, o, none⟩)) (hc : LA w b o c)
    (h : wpList Tryz.prog ops Q rest (a.put op.dst (Value.agg (acells c).toArray)) w) : wpList Tryz.prog ops Q (op :: rest) a w :=
  wpList_step fun K hK => by
    rw [if_pos hw]
    exact wp_load_mid _ x ho b o hx (acells c) _ hc Tryz.underlying23 rfl (by rw [infoA, acells_len]) (hK _ _ h)
theorem ldP (x : Operand) (hw : Region.wanted op (yielded ops a.tmps) = true) (ho : op.op = .load 40 x) (b o : Nat) (c : Pf) (hx : a.eval x = .pointer (some ⟨b, o, none⟩)) (hc : LP w b o c)
    (h : wpList Tryz.prog ops Q rest (a.put op.dst (Value.agg (pcells c).toArray)) w) : wpList Tryz.prog ops Q (op :: rest) a w :=
  wpList_step fun K hK => by
    rw [if_pos hw]
    exact wp_load_mid _ x ho b o hx (pcells c) _ hc Tryz.underlying40 rfl (by rw [infoP, pcells_len]) (hK _ _ h)
theorem ldQ (x : Operand) (hw : Region.wanted op (yielded ops a.tmps) = true) (ho : op.op = .load 42 x) (b o : Nat) (c : Pr) (hx : a.eval x = .pointer (some ⟨b, o, none⟩)) (hc : LQ w b o c)
    (h : wpList Tryz.prog ops Q rest (a.put op.dst (Value.agg (qcells c).toArray)) w) : wpList Tryz.prog ops Q (op :: rest) a w :=
  wpList_step fun K hK => by
    rw [if_pos hw]
    exact wp_load_mid _ x ho b o hx (qcells c) _ hc Tryz.underlying42 rfl (by rw [infoQ, qcells_len]) (hK _ _ h)
end

section
variable {ops : Array Oper} {rest : List Oper} {op : Oper} {a : Act} {w : World} {Q : Exit → Act → World → Prop}
theorem stA (x y : Operand) (hw : Region.wanted op (yielded ops a.tmps) = true) (ho : op.op = .store 23 x y) (b o : Nat) (c : Ad) (hx : a.eval x = .pointer (some ⟨b, o, none⟩)) (hy : a.eval y = (Value.agg (acells c).toArray)) (ht : w.there b o 16)
    (h : wpList Tryz.prog ops Q rest (a.put op.dst undef) (w.setCells b o (acells c))) : wpList Tryz.prog ops Q (op :: rest) a w :=
  wpList_step fun K hK => by
    rw [if_pos hw]
    exact wp_store_mid _ x y ho b o _ hx hy (by simpa [acells_len] using ht) (by rw [infoA]; simp [acells_len]) (all_oneCell_toArray (acells_one c)) (hK _ _ (by simpa using h))
theorem stP (x y : Operand) (hw : Region.wanted op (yielded ops a.tmps) = true) (ho : op.op = .store 40 x y) (b o : Nat) (c : Pf) (hx : a.eval x = .pointer (some ⟨b, o, none⟩)) (hy : a.eval y = (Value.agg (pcells c).toArray)) (ht : w.there b o 17)
    (h : wpList Tryz.prog ops Q rest (a.put op.dst undef) (w.setCells b o (pcells c))) : wpList Tryz.prog ops Q (op :: rest) a w :=
  wpList_step fun K hK => by
    rw [if_pos hw]
    exact wp_store_mid _ x y ho b o _ hx hy (by simpa [pcells_len] using ht) (by rw [infoP]; simp [pcells_len]) (all_oneCell_toArray (pcells_one c)) (hK _ _ (by simpa using h))
theorem stQ (x y : Operand) (hw : Region.wanted op (yielded ops a.tmps) = true) (ho : op.op = .store 42 x y) (b o : Nat) (c : Pr) (hx : a.eval x = .pointer (some ⟨b, o, none⟩)) (hy : a.eval y = (Value.agg (qcells c).toArray)) (ht : w.there b o 34)
    (h : wpList Tryz.prog ops Q rest (a.put op.dst undef) (w.setCells b o (qcells c))) : wpList Tryz.prog ops Q (op :: rest) a w :=
  wpList_step fun K hK => by
    rw [if_pos hw]
    exact wp_store_mid _ x y ho b o _ hx hy (by simpa [qcells_len] using ht) (by rw [infoQ]; simp [qcells_len]) (all_oneCell_toArray (qcells_one c)) (hK _ _ (by simpa using h))
end
theorem LA.stored {w : World} {b o : Nat} {c : Ad} (ht : w.there b o 16) : LA (w.setCells b o (acells c)) b o c := World.rangeAt_setCells_same _ _ _ _ (by rw [acells_len]; exact ht)
theorem LP.stored {w : World} {b o : Nat} {c : Pf} (ht : w.there b o 17) : LP (w.setCells b o (pcells c)) b o c := World.rangeAt_setCells_same _ _ _ _ (by rw [pcells_len]; exact ht)
theorem LQ.stored {w : World} {b o : Nat} {c : Pr} (ht : w.there b o 34) : LQ (w.setCells b o (qcells c)) b o c := World.rangeAt_setCells_same _ _ _ _ (by rw [qcells_len]; exact ht)

/-! ### Boxes -/
/-! ### Fields of values -/
theorem extractA (p : Pf) : (pcells p).toArray.extract 0 16 = (acells p.a).toArray := by
  simp [pcells, acells_len]
theorem run_fieldA (p : Pf) (w : World) : (Instr.field 40 (Value.agg (pcells p).toArray) 0).run Tryz.prog w = .ok (Value.agg (acells p.a).toArray) w := by
  have h := extractA p
  unfold Instr.field
  go_simp
  simp only [asAgg, Sem.run_pure, Result.andThen_ok, h]
/-! ### Equality -/
theorem eqItems_u8 (d : Nat) (l m : List UInt8) (w : World) : ∀ is : List Nat, (∀ i ∈ is, i < l.length ∧ i < m.length) →
    (Op.eqItems (d + 1) 5 1 (bcells l).toArray (bcells m).toArray is).run Tryz.prog w = .ok (decide (∀ i ∈ is, l[i]? = m[i]?)) w
  | [], _ => by simp [Op.eqItems]
  | i :: is, h => by
    have ih := eqItems_u8 d l m w is (fun j hj => h j (by simp [hj]))
    obtain ⟨h1, h2⟩ := h i (by simp)
    have e1 : (bcells l)[i]? = some (.int .u8 l[i].toNat) := by simp [bcells, h1]
    have e2 : (bcells m)[i]? = some (.int .u8 m[i].toNat) := by simp [bcells, h2]
    have hag : ∀ w, (isAgg 5).run Tryz.prog w = .ok false w := fun w => by simp [isAgg, run_underlying Tryz.underlying5]
    have he : ∀ w a b, (Op.equalIn (d + 1) 5 (.int .u8 a) (.int .u8 b)).run Tryz.prog w = .ok (a == b) w := fun w a b => run_equalIn_int w d _ _ _ a b Tryz.underlying5
    simp only [Op.eqItems, Sem.run_bind, part, Nat.mul_one, hag, Result.andThen_ok, Bool.false_eq_true, if_false, List.getElem?_toArray, e1, e2, Sem.run_pure, he, Sem.run_ite]
    have e3 : ((l[i].toNat : Int) == (m[i].toNat : Int)) = decide (l[i] = m[i]) := by
      by_cases hh : l[i] = m[i]
      · simp [hh]
      · have : l[i].toNat ≠ m[i].toNat := fun e => hh (UInt8.toNat.inj e)
        have h4 : ¬ ((l[i].toNat : Int) = (m[i].toNat : Int)) := by omega
        simp only [beq_eq_false_iff_ne.2 h4, hh, decide_false]
    by_cases hh : l[i] = m[i]
    · simp [hh, ih, h1, h2]
    · simp [e3, hh, h1, h2]
theorem same_of {l m : List UInt8} {n : Nat} (hl : l.length = n) (hm : m.length = n) : (∀ i ∈ List.range n, l[i]? = m[i]?) ↔ l = m := by
  constructor
  · intro h
    apply List.ext_getElem?
    intro i
    by_cases hi : i < n
    · exact h i (by simp [hi])
    · rw [List.getElem?_eq_none (by omega), List.getElem?_eq_none (by omega)]
  · rintro rfl; simp
theorem two_of {α : Type} : ∀ {l : List α}, l.length = 2 → ∃ a b, l = [a, b]
  | [a, b], _ => ⟨a, b, rfl⟩
set_option maxRecDepth 4000 in
theorem eqA (d : Nat) (a b : Ad) (w : World) : (Op.equalIn (d + 2) 23 (Value.agg (acells a).toArray) (Value.agg (acells b).toArray)).run Tryz.prog w = .ok (decide (a.l = b.l)) w := by
  obtain ⟨i, hi⟩ : ∃ i, Tryz.prog.info? 5 = some i := Option.isSome_iff_exists.1 (by kernel_rfl)
  rw [run_equalIn_array w (d + 1) _ _ Tryz.underlying23 hi, show Tryz.prog.cellsOf 5 = 1 by kernel_rfl]
  unfold acells
  rw [eqItems_u8 d a.l b.l w _ (fun i hi => by rw [a.len, b.len]; exact ⟨List.mem_range.1 hi, List.mem_range.1 hi⟩)]
  congr 1
  exact decide_eq_decide.2 (same_of a.len b.len)
theorem eqP (d : Nat) (p q : Pf) (w : World) : (Op.equalIn (d + 3) 40 (Value.agg (pcells p).toArray) (Value.agg (pcells q).toArray)).run Tryz.prog w = .ok (decide (p.a.l = q.a.l) && decide (p.n = q.n)) w := by
  have e1 : List.take 16 (pcells p) = acells p.a := by simp [pcells, acells_len]
  have e2 : List.take 16 (pcells q) = acells q.a := by simp [pcells, acells_len]
  have h1 : (pcells p)[16]? = some (.int .i64 p.n) := by simp [pcells, acells_len]
  have h2 : (pcells q)[16]? = some (.int .i64 q.n) := by simp [pcells, acells_len]
  have h3 := eqA d p.a q.a w
  have he : ∀ w a b, (Op.equalIn (d + 2) 3 (.int .i64 a) (.int .i64 b)).run Tryz.prog w = .ok (a == b) w := fun w a b => run_equalIn_int w (d + 1) _ _ _ a b Tryz.underlying3
  have hf : (Tryz.prog.fieldsOf 40).toList.map (fun f => (f.name, f.type, f.offset)) = [("A", 23, 0), ("Len", 3, 16)] := by kernel_rfl
  rw [run_equalIn_struct w (d + 2) 40 _ _ (by kernel_rfl) (by kernel_rfl)]
  generalize (Tryz.prog.fieldsOf 40).toList = fs at hf
  obtain ⟨f1, f2, rfl⟩ : ∃ f1 f2, fs = [f1, f2] := two_of (by have := congrArg List.length hf; simpa using this)
  · simp only [List.map_cons, List.map_nil, List.cons.injEq, Prod.mk.injEq, and_true] at hf
    obtain ⟨⟨n1, t1, o1⟩, n2, t2, o2⟩ := hf
    have ha : ∀ w, (isAgg 23).run Tryz.prog w = .ok true w := fun w => by simp [isAgg, run_underlying Tryz.underlying23]
    have hb : ∀ w, (isAgg 3).run Tryz.prog w = .ok false w := fun w => by simp [isAgg, run_underlying Tryz.underlying3]
    have hs : ∀ w, (sizeOf 23).run Tryz.prog w = .ok 16 w := fun w => by kernel_rfl
    simp [Op.eqFields, n1, n2, t1, t2, o1, o2, Sem.run_bind, Sem.run_ite, part, ha, hb, hs, Result.andThen_ok, if_true, Nat.zero_add, e1, e2, h3, Sem.run_pure, Bool.false_eq_true, if_false, List.getElem?_toArray, h1, h2, he]
    by_cases hh : p.a.l = q.a.l <;> by_cases hn : p.n = q.n <;> simp [hh, hn]
theorem eqQ (d : Nat) (p q : Pr) (w : World) : (Op.equalIn (d + 4) 42 (Value.agg (qcells p).toArray) (Value.agg (qcells q).toArray)).run Tryz.prog w = .ok ((decide (p.d.a.l = q.d.a.l) && decide (p.d.n = q.d.n)) && (decide (p.s.a.l = q.s.a.l) && decide (p.s.n = q.s.n))) w := by
  have e1 : List.take 17 (qcells p) = pcells p.d := by simp [qcells, pcells_len]
  have e2 : List.take 17 (qcells q) = pcells q.d := by simp [qcells, pcells_len]
  have e3 : List.take 17 (List.drop 17 (qcells p)) = pcells p.s := by simp [qcells, pcells_len, List.take_of_length_le]
  have e4 : List.take 17 (List.drop 17 (qcells q)) = pcells q.s := by simp [qcells, pcells_len, List.take_of_length_le]
  have h3 := eqP d p.d q.d w
  have h4 := eqP d p.s q.s w
  have hf : (Tryz.prog.fieldsOf 42).toList.map (fun f => (f.name, f.type, f.offset)) = [("Dst", 40, 0), ("Src", 40, 17)] := by kernel_rfl
  rw [run_equalIn_struct w (d + 3) 42 _ _ (by kernel_rfl) (by kernel_rfl)]
  generalize (Tryz.prog.fieldsOf 42).toList = fs at hf
  obtain ⟨f1, f2, rfl⟩ : ∃ f1 f2, fs = [f1, f2] := two_of (by have := congrArg List.length hf; simpa using this)
  · simp only [List.map_cons, List.map_nil, List.cons.injEq, Prod.mk.injEq, and_true] at hf
    obtain ⟨⟨n1, t1, o1⟩, n2, t2, o2⟩ := hf
    have ha : ∀ w, (isAgg 40).run Tryz.prog w = .ok true w := fun w => by simp [isAgg, run_underlying Tryz.underlying40]
    have hs : ∀ w, (sizeOf 40).run Tryz.prog w = .ok 17 w := fun w => by kernel_rfl
    simp [Op.eqFields, n1, n2, t1, t2, o1, o2, Sem.run_bind, Sem.run_ite, part, ha, hs, Result.andThen_ok, if_true, Nat.zero_add, e1, e2, e3, e4, h3, h4, Nat.reduceAdd]
    by_cases hh : p.d.a.l = q.d.a.l <;> by_cases hn : p.d.n = q.d.n <;> simp [hh, hn] <;> by_cases h5 : p.s.a.l = q.s.a.l <;> by_cases h6 : p.s.n = q.s.n <;> simp [h5, h6]
end Go.Proofs.YtdibjgcokebfbaaGreat
