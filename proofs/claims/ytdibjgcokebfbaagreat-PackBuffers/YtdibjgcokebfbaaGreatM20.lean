/-
  Slices of Tlvs; the document's Sames answers true of two lists that tell the same.
-/
import Derived.Test.YtdibjgcokebfbaaGreatM16
import Derived.Test.YtdibjgcokebfbaaGreatM19
import Derived.Test.YtdibjgcokebfbaaGreatM17
namespace Go.Proofs.YtdibjgcokebfbaaGreat
open Go.RowKit
set_option linter.unusedSimpArgs false
set_option maxRecDepth 20000

theorem tcs_len (ts : List Tl) : (tcs ts).length = ts.length * 68 := by
  induction ts with
  | nil => rfl
  | cons p ps ih => simp only [tcs, List.flatMap_cons, List.length_append, List.length_cons] at *; rw [ih, tcells_len]; omega
theorem tcs_get (ts : List Tl) (j : Nat) (t : Tl) (h : ts[j]? = some t) (k : Nat) (hk : k < 68) : (tcs ts)[j * 68 + k]? = (tcells t)[k]? := by
  induction ts generalizing j with
  | nil => simp at h
  | cons q ps ih =>
    have e : tcs (q :: ps) = tcells q ++ tcs ps := by simp [tcs]
    rw [e]
    cases j with
    | zero =>
      simp at h
      subst h
      rw [List.getElem?_append_left (by rw [tcells_len]; omega)]
      simp
    | succ j =>
      rw [List.getElem?_append_right (by rw [tcells_len]; omega)]
      have e2 : (j + 1) * 68 + k - (tcells q).length = j * 68 + k := by rw [tcells_len]; omega
      rw [e2]
      exact ih j (by simpa using h)
/-- A slice of Tlvs. -/
structure TlW (w : World) (a : Option Addr) (n : Nat) (ts : List Tl) : Prop where
  len : ts.length = n
  place : ts ≠ [] → ∃ g o, a = some ⟨g, o, none⟩ ∧ g < w.heap.size ∧ ∀ j t, ts[j]? = some t → w.rangeAt g (o + j * 68) (tcells t)
  stms : ∀ t ∈ ts, TSrc w t
theorem TlW.below {w w' : World} {a : Option Addr} {n : Nat} {ts : List Tl} (h : TlW w a n ts) (hb : Below w.heap.size w w') : TlW w' a n ts :=
  ⟨h.len, fun hne => by
    obtain ⟨g, o, e, hg, hr⟩ := h.place hne
    exact ⟨g, o, e, Nat.lt_of_lt_of_le hg hb.size, fun j p hp i v hv => (hb.cell (p := ⟨g, o + j * 68 + i, none⟩) hg).trans (hr j p hp i v hv)⟩, fun p hp => Src.below (h.stms p hp) hb (Src.lt (h.stms p hp))⟩
theorem own_src77 {w : World} {B : Nat} {a : Option Addr} {n c : Nat} {xs : List Value} (h : w.ownsRow B 100 1 (.slice a n c) n xs) : Src w a n c xs := by
  rcases h.2 with ⟨h1, h2⟩ | ⟨g, cap, cur, h1, hb, hh, hr⟩
  · cases h1
    have : xs = [] := List.eq_nil_of_length_eq_zero (by simpa using h.1)
    subst this
    exact Src.nil w
  · cases h1
    refine ⟨by simpa using h.1, (fun h => by cases h), fun ad had j u hu => ?_⟩
    cases had
    exact h.cells rfl j u hu
theorem Tls.tlw {B : Nat} {w : World} {a : Option Addr} {c : Nat} {ts : List Tl} (h : Tls B w a c ts) : TlW w a ts.length ts := by
  refine ⟨rfl, fun hne => ?_, fun t ht => own_src77 (h.stms t ht)⟩
  rcases h.own.2 with ⟨_, h2⟩ | ⟨g, cap, cur, hv, _, hh, _, _, _, _⟩
  · exact absurd (List.eq_nil_of_length_eq_zero h2) hne
  · cases hv
    refine ⟨g, 0, rfl, lt_of_block hh, fun j p hp k u hu => ?_⟩
    have hk : k < 68 := by have := (List.getElem?_eq_some_iff.1 hu).1; rwa [tcells_len] at this
    have := h.own.cells rfl (j * 68 + k) u (by rw [tcs_get ts j p hp k hk]; exact hu)
    rw [Addr.add_mid] at this
    rw [Nat.add_assoc]
    exact this
theorem TlW.at {w : World} {a : Option Addr} {n : Nat} {ts : List Tl} (h : TlW w a n ts) {j : Nat} (hj : j < ts.length) : ∃ g o, a = some ⟨g, o, none⟩ ∧ g < w.heap.size ∧ w.rangeAt g (o + j * 68) (tcells ts[j]) := by
  obtain ⟨g, o, e, hl, hr⟩ := h.place (by rintro rfl; simp at hj)
  exact ⟨g, o, e, hl, hr j ts[j] (List.getElem?_eq_getElem hj)⟩
theorem TlW.take {w : World} {a : Option Addr} {n : Nat} {ts : List Tl} (h : TlW w a n ts) (k : Nat) (hk : k ≤ n) : TlW w a k (ts.take k) := by
  refine ⟨by rw [List.length_take, h.len]; omega, fun hne => ?_, fun t ht => h.stms t (List.mem_of_mem_take ht)⟩
  obtain ⟨g, o, e, hl, hr⟩ := h.place (by rintro rfl; simp at hne)
  exact ⟨g, o, e, hl, fun j t ht => hr j t (take_get ht)⟩
section
variable {ops : Array Oper} {op : Oper} {a : Act} {S : World → Prop}
theorem yTm {b o : Nat} {x : Operand} (t : Tl) (hS : ∀ w, S w → w.rangeAt b o (tcells t)) (hw : Region.wanted op (yielded ops a.tmps) = true) (ho : op.op = .load 45 x) (hx : a.eval x = .pointer (some ⟨b, o, none⟩)) : YieldsIf Tryz.prog ops S op (.agg (tcells t).toArray) a :=
  yieldsIf_load_mid hw _ x ho b o hx (tcells t) _ hS Tryz.underlying45 rfl (by rw [infoTs, tcells_len])
end
theorem range_below {w w' : World} {b o : Nat} {cs : List Value} (h : w.rangeAt b o cs) (hl : b < w.heap.size) (hb : Below w.heap.size w w') : w'.rangeAt b o cs := rangeAt_below h hb hl

theorem sames_true (a1 a2 : Option Addr) (n c1 c2 : Nat) (ts us : List Tl) (w : World) (h1 : TlW w a1 n ts) (h2 : TlW w a2 n us) (hk : ts.map Tl.key = us.map Tl.key) (hn : n ≤ 100000) (hs : ∀ t ∈ ts, t.st.length ≤ 100000) :
    Calls Tryz.prog 19 #[.slice a1 n c1, .slice a2 n c2] w fun e w' => e = .returned (.bool true) ∧ Below w.heap.size w w' := by
  have HN : Hid (ts.length = n ∧ us.length = n) := ⟨h1.len, h2.len⟩
  have HK : Hid (ts.map Tl.key = us.map Tl.key) := hk
  clear hk
  go_enter Tryz.func19, Tryz.ntmps19
  go_wp2
  go_loopw [5] (fun i wr => ∃ j : Nat, j ≤ n ∧ i = .int .i64 j ∧ Below w.heap.size w wr) (fun i _ => n - (intOf i).toNat)
  case atStart => exact ⟨0, Nat.zero_le _, rfl, Below.refl _ _⟩
  case round =>
    obtain ⟨j, hj, rfl, hbl⟩ := hrel
    by_cases hlt : j < n
    · have j1 : j < ts.length := by have := HN.out.1; omega
      have j2 : j < us.length := by have := HN.out.2; omega
      have w1 := h1.below hbl
      have w2 := h2.below hbl
      obtain ⟨g1, o1, rfl, l1, rq1⟩ := w1.at j1
      obtain ⟨g2, o2, rfl, l2, r2⟩ := w2.at j2
      have hkk : ts[j].key = us[j].key := by
        have e := congrArg (fun l => l[j]?) HK.out
        simpa [j1, j2] using e
      have t1 := w1.stms ts[j] (List.getElem_mem j1)
      have t2 := w2.stms us[j] (List.getElem_mem j2)
      have hst := hs ts[j] (List.getElem_mem j1)
      have hsn : ts[j].sn ≤ 100000 := by have := TSrc.len t1; omega
      have HS : Hid (∀ W, Below wr.heap.size wr W → Calls Tryz.prog 28 #[.agg (tcells ts[j]).toArray, .agg (tcells us[j]).toArray] W fun e w' => e = .returned (.bool true) ∧ Below W.heap.size W w') := fun W hW => rsame_true ts[j] us[j] W (Src.below t1 hW (Src.lt t1)) (Src.below t2 hW (Src.lt t2)) hkk hsn
      generalize ts[j] = t at *
      generalize us[j] = u at *
      clear t1 t2 hst hsn hkk
      go_wp2
      have r1d := range_below rq1 l1 (bd wr)
      have r2d := range_below r2 l2 (bd wr)
      refine wp_region_noPanic ?_
      refine wp_region_held_drew (S := fun W => W.rangeAt g1 (o1 + j * 68) (tcells t) ∧ W.rangeAt g2 (o2 + j * 68) (tcells u)) (by kernel_rfl) (⟨r1d, r2d⟩) (fun hHeld => ?_)
      refine tA 0 ?_
      refine tA 1 ?_
      refine tA 2 ?_
      refine tL 3 rfl (yTm t (fun W hW => hW.1) (by rfl) rfl rfl) ?_
      refine tA 4 ?_
      refine tA 5 ?_
      refine tA 6 ?_
      refine tL 7 rfl (yTm u (fun W hW => hW.2) (by rfl) rfl rfl) ?_
      refine r1 8 fun K hK => ?_
      go_simp
      refine (HS.out _ (bd wr)).mono ?_
      rintro e w5 ⟨rfl, hb5⟩
      have bW := hbl.trans ((bt (bd wr) hb5).mono hbl.size)
      refine oK hK (by exact ⟨range_below r1d l1 hb5, range_below r2d l2 hb5⟩) fun hHeld => ?_
      clear hK K
      refine tA 9 ?_
      refine dN ?_
      refine NoPanic.normal ?_
      go_wp2
      go_roundw
      case rel => exact ⟨j + 1, by omega, by go_num, bW⟩
      case measure => simp [intOf]; omega
    · go_wp2
      go_ret
      exact ⟨rfl, hbl⟩
end Go.Proofs.YtdibjgcokebfbaaGreat

namespace Go.Proofs.YtdibjgcokebfbaaGreat
open Go.RowKit
set_option linter.unusedSimpArgs false
set_option maxRecDepth 20000

def lwS : Ad := ⟨[254, 128, 0, 0, 0, 0, 0, 0, 0, 0, 0, 0, 0, 0, 0, 1], rfl⟩
end Go.Proofs.YtdibjgcokebfbaaGreat

namespace Go.Proofs.YtdibjgcokebfbaaGreat
open Go.RowKit
set_option linter.unusedSimpArgs false
set_option maxRecDepth 20000

theorem fitsx_4 (t : Tl) (w : World) (hy : t.ty = 4) :
    Calls Tryz.prog 64 #[.agg (tcells t).toArray] w fun e w' => e = .returned (.bool (decide (t.sn ≤ 1))) ∧ Below w.heap.size w w' := by
  have T67 := tcells_get t
  have T0 : (tcells t)[0]? = some (.int .u8 4) := by show some (Value.int .u8 (t.ty : Int)) = _; rw [hy]; rfl
  clear hy
  generalize t.sn = n at *
  go_enter Tryz.func64, Tryz.ntmps64
  go_wp2
  go_ret
  refine ⟨?_, ba _ _⟩
  have : decide ((n : Int) ≤ 1) = decide (n ≤ 1) := decide_eq_decide.2 (by omega)
  simp [this]
theorem fitsx_5n (t : Tl) (w : World) (hy : t.ty = 5) (h0 : t.sn ≠ 0) (h2 : t.sn ≠ 2) :
    Calls Tryz.prog 64 #[.agg (tcells t).toArray] w fun e w' => e = .returned (.bool (false)) ∧ Below w.heap.size w w' := by
  have T67 := tcells_get t
  have T0 : (tcells t)[0]? = some (.int .u8 5) := by show some (Value.int .u8 (t.ty : Int)) = _; rw [hy]; rfl
  clear hy
  generalize t.sn = n at *
  have k0 : ((n : Int) == 0) = false := by simp; omega
  have k2 : ((n : Int) == 2) = false := by simp; omega
  go_enter Tryz.func64, Tryz.ntmps64
  go_wp2
  go_ret
  exact ⟨rfl, ba _ _⟩
theorem fitsx_5_0 (t : Tl) (w : World) (hy : t.ty = 5) (hs : t.sn = 0) (hall : t.all = true) :
    Calls Tryz.prog 64 #[.agg (tcells t).toArray] w fun e w' => e = .returned (.bool (decide (t.ad.l = zeroA.l))) ∧ Below w.heap.size w w' := by
  have RT := Row.new w 45 (tcells t)
  have T67 := tcells_get t
  rw [hs] at T67
  have T8 : (tcells t)[8]? = some (.bool true) := by rw [← hall]; rfl
  have T0 : (tcells t)[0]? = some (.int .u8 5) := by show some (Value.int .u8 (t.ty : Int)) = _; rw [hy]; rfl
  clear hy
  have e0A : ∀ w, (Op.equalIn (9998 + 2) 23 (Value.agg (acells t.ad).toArray) (.agg #[.int .u8 0, .int .u8 0, .int .u8 0, .int .u8 0, .int .u8 0, .int .u8 0, .int .u8 0, .int .u8 0, .int .u8 0, .int .u8 0, .int .u8 0, .int .u8 0, .int .u8 0, .int .u8 0, .int .u8 0, .int .u8 0])).run Tryz.prog w = .ok (decide (t.ad.l = zeroA.l)) w := fun w => eqA 9998 t.ad zeroA w
  have rA := RT.rAd
  generalize decide (t.ad.l = zeroA.l) = bA at *
  clear hs hall
  go_enter Tryz.func64, Tryz.ntmps64
  go_wp2_with ((refine ldA (.tmp 28) (by rfl) rfl w.heap.size 17 t.ad rfl rA ?_))
  go_ret
  exact ⟨rfl, ba _ _⟩
theorem fitsx_5_2 (t : Tl) (w : World) (hy : t.ty = 5) (hs : t.sn = 2) (hall : t.all = true) :
    Calls Tryz.prog 64 #[.agg (tcells t).toArray] w fun e w' => e = .returned (.bool (decide (t.ad.l = zeroA.l))) ∧ Below w.heap.size w w' := by
  have RT := Row.new w 45 (tcells t)
  have T67 := tcells_get t
  rw [hs] at T67
  have T8 : (tcells t)[8]? = some (.bool true) := by rw [← hall]; rfl
  have T0 : (tcells t)[0]? = some (.int .u8 5) := by show some (Value.int .u8 (t.ty : Int)) = _; rw [hy]; rfl
  clear hy
  have e0A : ∀ w, (Op.equalIn (9998 + 2) 23 (Value.agg (acells t.ad).toArray) (.agg #[.int .u8 0, .int .u8 0, .int .u8 0, .int .u8 0, .int .u8 0, .int .u8 0, .int .u8 0, .int .u8 0, .int .u8 0, .int .u8 0, .int .u8 0, .int .u8 0, .int .u8 0, .int .u8 0, .int .u8 0, .int .u8 0])).run Tryz.prog w = .ok (decide (t.ad.l = zeroA.l)) w := fun w => eqA 9998 t.ad zeroA w
  have rA := RT.rAd
  generalize decide (t.ad.l = zeroA.l) = bA at *
  clear hs hall
  go_enter Tryz.func64, Tryz.ntmps64
  go_wp2_with ((refine ldA (.tmp 28) (by rfl) rfl w.heap.size 17 t.ad rfl rA ?_))
  go_ret
  exact ⟨rfl, ba _ _⟩
theorem fitsx_9 (t : Tl) (w : World) (hy : t.ty = 9) (hall : t.all = true) :
    Calls Tryz.prog 64 #[.agg (tcells t).toArray] w fun e w' => e = .returned (.bool (prqB t.pr zeroQ)) ∧ Below w.heap.size w w' := by
  have RT := Row.new w 45 (tcells t)
  have T8 : (tcells t)[8]? = some (.bool true) := by rw [← hall]; rfl
  have T0 : (tcells t)[0]? = some (.int .u8 9) := by show some (Value.int .u8 (t.ty : Int)) = _; rw [hy]; rfl
  clear hy
  have e0Q : ∀ w, (Op.equalIn (9996 + 4) 42 (Value.agg (qcells t.pr).toArray) (.agg #[.int .u8 0, .int .u8 0, .int .u8 0, .int .u8 0, .int .u8 0, .int .u8 0, .int .u8 0, .int .u8 0, .int .u8 0, .int .u8 0, .int .u8 0, .int .u8 0, .int .u8 0, .int .u8 0, .int .u8 0, .int .u8 0, .int .i64 0, .int .u8 0, .int .u8 0, .int .u8 0, .int .u8 0, .int .u8 0, .int .u8 0, .int .u8 0, .int .u8 0, .int .u8 0, .int .u8 0, .int .u8 0, .int .u8 0, .int .u8 0, .int .u8 0, .int .u8 0, .int .u8 0, .int .i64 0])).run Tryz.prog w = .ok (prqB t.pr zeroQ) w := fun w => eqQ 9996 t.pr zeroQ w
  have rP := RT.rPr
  generalize prqB t.pr zeroQ = bQ at *
  clear hall
  go_enter Tryz.func64, Tryz.ntmps64
  go_wp2_with ((refine ldQ (.tmp 44) (by rfl) rfl w.heap.size 33 t.pr rfl rP ?_))
  go_ret
  exact ⟨rfl, ba _ _⟩
theorem fitsx_10z (t : Tl) (w : World) (hy : t.ty = 10) (hh : t.hops = 0) :
    Calls Tryz.prog 64 #[.agg (tcells t).toArray] w fun e w' => e = .returned (.bool (false)) ∧ Below w.heap.size w w' := by
  have RT := Row.new w 45 (tcells t)
  have T6 : (tcells t)[6]? = some (.int .u8 0) := by show some (Value.int .u8 (t.hops : Int)) = _; rw [hh]; rfl
  have T0 : (tcells t)[0]? = some (.int .u8 10) := by show some (Value.int .u8 (t.ty : Int)) = _; rw [hy]; rfl
  clear hy
  clear hh
  go_enter Tryz.func64, Tryz.ntmps64
  go_wp2
  go_ret
  exact ⟨rfl, ba _ _⟩
theorem fitsx_10 (t : Tl) (w : World) (hy : t.ty = 10) (hh : t.hops ≠ 0) :
    Calls Tryz.prog 64 #[.agg (tcells t).toArray] w fun e w' => e = .returned (.bool (!decide (t.id.l = zeroI.l))) ∧ Below w.heap.size w w' := by
  have RT := Row.new w 45 (tcells t)
  have T6 : (tcells t)[6]? = some (.int .u8 (t.hops : Int)) := rfl
  have e0I : ∀ w, (Op.equalIn (9998 + 2) 38 (.agg (icells t.id).toArray) (.agg #[.int .u8 0, .int .u8 0, .int .u8 0, .int .u8 0, .int .u8 0, .int .u8 0, .int .u8 0, .int .u8 0])).run Tryz.prog w = .ok (decide (t.id.l = zeroI.l)) w := fun w => eqI 9998 t.id zeroI w
  have rI := RT.rId2
  generalize decide (t.id.l = zeroI.l) = bI at *
  have T0 : (tcells t)[0]? = some (.int .u8 10) := by show some (Value.int .u8 (t.ty : Int)) = _; rw [hy]; rfl
  clear hy
  have hh' : ((t.hops : Int) != 0) = true := by simp; omega
  generalize t.hops = n at *
  clear hh
  go_enter Tryz.func64, Tryz.ntmps64
  go_wp2_with ((refine ldI (.tmp 55) (by rfl) rfl w.heap.size 9 t.id rfl rI ?_))
  go_ret
  exact ⟨rfl, ba _ _⟩
theorem fitsx_8 (t : Tl) (w : World) (hy : t.ty = 8) (b : Bool) (hU : ∀ W, Calls Tryz.prog 97 #[.agg (tcells t).toArray] W fun e w' => e = .returned (.bool b) ∧ Below W.heap.size W w') :
    Calls Tryz.prog 64 #[.agg (tcells t).toArray] w fun e w' => e = .returned (.bool (b)) ∧ Below w.heap.size w w' := by
  have RT := Row.new w 45 (tcells t)
  have T0 : (tcells t)[0]? = some (.int .u8 8) := by show some (Value.int .u8 (t.ty : Int)) = _; rw [hy]; rfl
  clear hy
  go_enter Tryz.func64, Tryz.ntmps64
  go_wp2_with (first
    | (go_at_call 97; refine (hU _).mono ?_; rintro e w1 ⟨rfl, hb1⟩)
    | (refine ldT (.tmp 1) (by rfl) rfl w.heap.size t rfl RT ?_))
  go_ret
  exact ⟨rfl, bt (ba _ _) hb1⟩
theorem fitsUx_tn (t : Tl) (w : World) (hall : t.all = true) (hmet : t.met ≠ 65535) :
    Calls Tryz.prog 97 #[.agg (tcells t).toArray] w fun e w' => e = .returned (.bool (false)) ∧ Below w.heap.size w w' := by
  have RT := Row.new w 45 (tcells t)
  have T8 : (tcells t)[8]? = some (.bool true) := by rw [← hall]; rfl
  have T5 : (tcells t)[5]? = some (.int .u16 (t.met : Int)) := rfl
  have hm : ((t.met : Int) == 65535) = false := by simp; omega
  have hm' : ((t.met : Int) != 65535) = true := by simp; omega
  generalize t.met = m at *
  clear hall hmet
  go_enter Tryz.func97, Tryz.ntmps97
  go_wp2
  go_ret
  exact ⟨rfl, ba _ _⟩
theorem fitsUx_ti (t : Tl) (w : World) (hall : t.all = true) (hmet : t.met = 65535) :
    Calls Tryz.prog 97 #[.agg (tcells t).toArray] w fun e w' => e = .returned (.bool (prqB t.pr zeroQ && (decide (t.id.l = zeroI.l) && decide (t.ad.l = zeroA.l)))) ∧ Below w.heap.size w w' := by
  have RT := Row.new w 45 (tcells t)
  have T8 : (tcells t)[8]? = some (.bool true) := by rw [← hall]; rfl
  have T5 : (tcells t)[5]? = some (.int .u16 65535) := by show some (Value.int .u16 (t.met : Int)) = _; rw [hmet]; rfl
  have e0I : ∀ w, (Op.equalIn (9998 + 2) 38 (.agg (icells t.id).toArray) (.agg #[.int .u8 0, .int .u8 0, .int .u8 0, .int .u8 0, .int .u8 0, .int .u8 0, .int .u8 0, .int .u8 0])).run Tryz.prog w = .ok (decide (t.id.l = zeroI.l)) w := fun w => eqI 9998 t.id zeroI w
  have rI := RT.rId2
  generalize decide (t.id.l = zeroI.l) = bI at *
  have e0A : ∀ w, (Op.equalIn (9998 + 2) 23 (Value.agg (acells t.ad).toArray) (.agg #[.int .u8 0, .int .u8 0, .int .u8 0, .int .u8 0, .int .u8 0, .int .u8 0, .int .u8 0, .int .u8 0, .int .u8 0, .int .u8 0, .int .u8 0, .int .u8 0, .int .u8 0, .int .u8 0, .int .u8 0, .int .u8 0])).run Tryz.prog w = .ok (decide (t.ad.l = zeroA.l)) w := fun w => eqA 9998 t.ad zeroA w
  have rA := RT.rAd
  generalize decide (t.ad.l = zeroA.l) = bA at *
  have e0Q : ∀ w, (Op.equalIn (9996 + 4) 42 (Value.agg (qcells t.pr).toArray) (.agg #[.int .u8 0, .int .u8 0, .int .u8 0, .int .u8 0, .int .u8 0, .int .u8 0, .int .u8 0, .int .u8 0, .int .u8 0, .int .u8 0, .int .u8 0, .int .u8 0, .int .u8 0, .int .u8 0, .int .u8 0, .int .u8 0, .int .i64 0, .int .u8 0, .int .u8 0, .int .u8 0, .int .u8 0, .int .u8 0, .int .u8 0, .int .u8 0, .int .u8 0, .int .u8 0, .int .u8 0, .int .u8 0, .int .u8 0, .int .u8 0, .int .u8 0, .int .u8 0, .int .u8 0, .int .i64 0])).run Tryz.prog w = .ok (prqB t.pr zeroQ) w := fun w => eqQ 9996 t.pr zeroQ w
  have rP := RT.rPr
  generalize prqB t.pr zeroQ = bQ at *
  clear hall hmet
  cases bQ
  · go_enter Tryz.func97, Tryz.ntmps97
    go_wp2_with (first
        | ((refine ldA (.tmp 24) (by rfl) rfl w.heap.size 17 t.ad rfl rA ?_))
        | ((refine ldI (.tmp 19) (by rfl) rfl w.heap.size 9 t.id rfl rI ?_))
        | ((refine ldQ (.tmp 10) (by rfl) rfl w.heap.size 33 t.pr rfl rP ?_)))
    go_ret
    exact ⟨rfl, ba _ _⟩
  · cases bI
    · go_enter Tryz.func97, Tryz.ntmps97
      go_wp2_with (first
          | ((refine ldA (.tmp 24) (by rfl) rfl w.heap.size 17 t.ad rfl rA ?_))
          | ((refine ldI (.tmp 19) (by rfl) rfl w.heap.size 9 t.id rfl rI ?_))
          | ((refine ldQ (.tmp 10) (by rfl) rfl w.heap.size 33 t.pr rfl rP ?_)))
      go_ret
      exact ⟨rfl, ba _ _⟩
    · go_enter Tryz.func97, Tryz.ntmps97
      go_wp2_with (first
          | ((refine ldA (.tmp 24) (by rfl) rfl w.heap.size 17 t.ad rfl rA ?_))
          | ((refine ldI (.tmp 19) (by rfl) rfl w.heap.size 9 t.id rfl rI ?_))
          | ((refine ldQ (.tmp 10) (by rfl) rfl w.heap.size 33 t.pr rfl rP ?_)))
      go_ret
      exact ⟨rfl, ba _ _⟩
theorem tad_get (t : Tl) (k : Nat) (hk : k < 16) : (tcells t)[17 + k]? = (acells t.ad)[k]? := by
  unfold tcells
  rw [List.getElem?_append_right (by simp [tnum]; omega), List.getElem?_append_right (by simp [tnum, icells_len]; omega), List.getElem?_append_left (by simp [tnum, icells_len, acells_len]; omega)]
  congr 1
  simp [tnum, icells_len]
  omega
set_option maxHeartbeats 1000000 in
theorem fitsUx_fi (t : Tl) (w : World) (hall : t.all = false) (hmet : t.met = 65535) :
    Calls Tryz.prog 97 #[.agg (tcells t).toArray] w fun e w' => e = .returned (.bool (decide (t.id.l = zeroI.l) && decide (t.ad.l = zeroA.l))) ∧ Below w.heap.size w w' := by
  have T8 : (tcells t)[8]? = some (.bool false) := by rw [← hall]; rfl
  have T5 : (tcells t)[5]? = some (.int .u16 65535) := by show some (Value.int .u16 (t.met : Int)) = _; rw [hmet]; rfl
  have e0I : ∀ w, (Op.equalIn (9998 + 2) 38 (.agg (icells t.id).toArray) (.agg #[.int .u8 0, .int .u8 0, .int .u8 0, .int .u8 0, .int .u8 0, .int .u8 0, .int .u8 0, .int .u8 0])).run Tryz.prog w = .ok (decide (t.id.l = zeroI.l)) w := fun w => eqI 9998 t.id zeroI w
  have e0A : ∀ w, (Op.equalIn (9998 + 2) 23 (Value.agg (acells t.ad).toArray) (.agg #[.int .u8 0, .int .u8 0, .int .u8 0, .int .u8 0, .int .u8 0, .int .u8 0, .int .u8 0, .int .u8 0, .int .u8 0, .int .u8 0, .int .u8 0, .int .u8 0, .int .u8 0, .int .u8 0, .int .u8 0, .int .u8 0])).run Tryz.prog w = .ok (decide (t.ad.l = zeroA.l)) w := fun w => eqA 9998 t.ad zeroA w
  generalize decide (t.id.l = zeroI.l) = bI at *
  generalize decide (t.ad.l = zeroA.l) = bA at *
  obtain ⟨b0, b1, b2, b3, b4, b5, b6, b7, hi⟩ := t.id.lit
  obtain ⟨c0, c1, c2, c3, c4, c5, c6, c7, c8, c9, c10, c11, c12, c13, c14, c15, hc⟩ := t.ad.lit
  have ei : icells t.id = [.int .u8 b0.toNat, .int .u8 b1.toNat, .int .u8 b2.toNat, .int .u8 b3.toNat, .int .u8 b4.toNat, .int .u8 b5.toNat, .int .u8 b6.toNat, .int .u8 b7.toNat] := by unfold icells; rw [hi]; rfl
  have ea : acells t.ad = [.int .u8 c0.toNat, .int .u8 c1.toNat, .int .u8 c2.toNat, .int .u8 c3.toNat, .int .u8 c4.toNat, .int .u8 c5.toNat, .int .u8 c6.toNat, .int .u8 c7.toNat, .int .u8 c8.toNat, .int .u8 c9.toNat, .int .u8 c10.toNat, .int .u8 c11.toNat, .int .u8 c12.toNat, .int .u8 c13.toNat, .int .u8 c14.toNat, .int .u8 c15.toNat] := by unfold acells; rw [hc]; rfl
  have G := tid_get t
  have GA := tad_get t
  rw [ei] at e0I G
  rw [ea] at e0A GA
  have T9 := G 0 (by decide)
  have T10 := G 1 (by decide)
  have T11 := G 2 (by decide)
  have T12 := G 3 (by decide)
  have T13 := G 4 (by decide)
  have T14 := G 5 (by decide)
  have T15 := G 6 (by decide)
  have T16 := G 7 (by decide)
  have T17 := GA 0 (by decide)
  have T18 := GA 1 (by decide)
  have T19 := GA 2 (by decide)
  have T20 := GA 3 (by decide)
  have T21 := GA 4 (by decide)
  have T22 := GA 5 (by decide)
  have T23 := GA 6 (by decide)
  have T24 := GA 7 (by decide)
  have T25 := GA 8 (by decide)
  have T26 := GA 9 (by decide)
  have T27 := GA 10 (by decide)
  have T28 := GA 11 (by decide)
  have T29 := GA 12 (by decide)
  have T30 := GA 13 (by decide)
  have T31 := GA 14 (by decide)
  have T32 := GA 15 (by decide)
  simp only [Nat.reduceAdd, List.getElem?_cons_zero, List.getElem?_cons_succ] at T9 T10 T11 T12 T13 T14 T15 T16 T17 T18 T19 T20 T21 T22 T23 T24 T25 T26 T27 T28 T29 T30 T31 T32
  clear hall hmet ei ea hi hc G GA
  cases bI
  · go_enter Tryz.func97, Tryz.ntmps97
    go_wp2
    go_ret
    exact ⟨rfl, ba _ _⟩
  · go_enter Tryz.func97, Tryz.ntmps97
    go_wp2
    go_ret
    exact ⟨rfl, ba _ _⟩
theorem fitsUx_fn (t : Tl) (w : World) (hall : t.all = false) (hmet : t.met ≠ 65535) :
    Calls Tryz.prog 97 #[.agg (tcells t).toArray] w fun e w' => e = .returned (.bool (!nobB t.id)) ∧ Below w.heap.size w w' := by
  have T8 : (tcells t)[8]? = some (.bool false) := by rw [← hall]; rfl
  have T5 : (tcells t)[5]? = some (.int .u16 (t.met : Int)) := rfl
  have HN := nobody_any t.id
  have hm : ((t.met : Int) == 65535) = false := by simp; omega
  obtain ⟨b0, b1, b2, b3, b4, b5, b6, b7, hi⟩ := t.id.lit
  have ei : icells t.id = [.int .u8 b0.toNat, .int .u8 b1.toNat, .int .u8 b2.toNat, .int .u8 b3.toNat, .int .u8 b4.toNat, .int .u8 b5.toNat, .int .u8 b6.toNat, .int .u8 b7.toNat] := by unfold icells; rw [hi]; rfl
  have G := tid_get t
  rw [ei] at HN G
  have T9 := G 0 (by decide)
  have T10 := G 1 (by decide)
  have T11 := G 2 (by decide)
  have T12 := G 3 (by decide)
  have T13 := G 4 (by decide)
  have T14 := G 5 (by decide)
  have T15 := G 6 (by decide)
  have T16 := G 7 (by decide)
  simp only [Nat.reduceAdd, List.getElem?_cons_zero, List.getElem?_cons_succ] at T9 T10 T11 T12 T13 T14 T15 T16
  generalize nobB t.id = bn at *
  generalize t.met = m at *
  clear hall hmet ei hi G
  go_enter Tryz.func97, Tryz.ntmps97
  go_wp2_with (go_at_call 113; refine (HN _).mono ?_; rintro e w1 ⟨rfl, hb1⟩)
  go_ret
  exact ⟨rfl, bt (ba _ _) hb1⟩
theorem namB_cases {y : Nat} (h : namB y = true) : y = 2 ∨ y = 3 ∨ y = 4 ∨ y = 5 ∨ y = 8 ∨ y = 9 ∨ y = 10 := by simpa [namB] using h
theorem fitsU_any (t : Tl) (w : World) : Calls Tryz.prog 97 #[.agg (tcells t).toArray] w fun e w' => e = .returned (.bool (fitU t.key)) ∧ Below w.heap.size w w' := by
  have e1 : t.key.all = t.all := rfl
  have e2 : t.key.met = t.met := rfl
  have e3 : t.key.id = t.id := rfl
  have e4 : t.key.ad = t.ad := rfl
  have e5 : t.key.pr = t.pr := rfl
  unfold fitU
  rw [e1, e2, e3, e4, e5]
  cases hall : t.all
  · rw [if_neg (by simp)]
    by_cases hm : t.met = 65535
    · rw [if_pos hm]; exact fitsUx_fi t w hall hm
    · rw [if_neg hm]; exact fitsUx_fn t w hall hm
  · by_cases hm : t.met = 65535
    · have h := fitsUx_ti t w hall hm
      cases hq : prqB t.pr zeroQ
      · rw [hq] at h
        rw [if_pos ⟨rfl, .inr rfl⟩]
        exact h
      · rw [hq] at h
        rw [if_neg (by rintro ⟨_, h1 | h1⟩; exact h1 hm; cases h1), if_pos hm]
        exact h
    · rw [if_pos ⟨rfl, .inl hm⟩]; exact fitsUx_tn t w hall hm
theorem fits_any (t : Tl) (w : World) (hs : t.sn = t.st.length) (hy : namB t.ty = true) : Calls Tryz.prog 64 #[.agg (tcells t).toArray] w fun e w' => e = .returned (.bool (fitB t.key)) ∧ Below w.heap.size w w' := by
  have e0 : t.key.ty = t.ty := rfl
  have e1 : t.key.all = t.all := rfl
  have e2 : t.key.st = t.st := rfl
  have e3 : t.key.id = t.id := rfl
  have e4 : t.key.ad = t.ad := rfl
  have e5 : t.key.pr = t.pr := rfl
  have e6 : t.key.hops = t.hops := rfl
  unfold fitB
  rw [e0, e1, e2, e3, e4, e5, e6, ← hs]
  rcases namB_cases hy with h | h | h | h | h | h | h
  · rw [if_neg (by omega), if_neg (by omega), if_neg (by omega), if_neg (by omega), if_neg (by omega)]; exact fits_2 t w h
  · rw [if_neg (by omega), if_neg (by omega), if_neg (by omega), if_neg (by omega), if_neg (by omega)]; exact fits_3 t w h
  · rw [if_pos h]; exact fitsx_4 t w h
  · rw [if_neg (by omega), if_pos h]
    by_cases h0 : t.sn = 0
    · rw [decide_eq_true (.inl h0), Bool.true_and]
      cases hall : t.all
      · exact fits_5_0false t w h h0 hall
      · exact fitsx_5_0 t w h h0 hall
    · by_cases h2 : t.sn = 2
      · rw [decide_eq_true (.inr h2), Bool.true_and]
        cases hall : t.all
        · exact fits_5_2false t w h h2 hall
        · exact fitsx_5_2 t w h h2 hall
      · rw [decide_eq_false (by omega), Bool.false_and]
        exact fitsx_5n t w h h0 h2
  · rw [if_neg (by omega), if_neg (by omega), if_pos h]; exact fitsx_8 t w h _ (fitsU_any t)
  · rw [if_neg (by omega), if_neg (by omega), if_neg (by omega), if_pos h]
    cases hall : t.all
    · exact fits_9false t w h hall
    · exact fitsx_9 t w h hall
  · rw [if_neg (by omega), if_neg (by omega), if_neg (by omega), if_neg (by omega), if_pos h]
    by_cases h0 : t.hops = 0
    · rw [decide_eq_true h0]; exact fitsx_10z t w h h0
    · rw [decide_eq_false h0]; exact fitsx_10 t w h h0
theorem unnamed_no (t : Tl) (w : World) (hy : namB t.ty = false) :
    Calls Tryz.prog 62 #[.agg (tcells t).toArray] w fun e w' => e = .returned (.tuple #[.agg (tcells zeroT).toArray, .bool false]) ∧ Below w.heap.size w w' := by
  have T0 : (tcells t)[0]? = some (.int .u8 (t.ty : Int)) := rfl
  simp [namB] at hy
  have d2 : ((t.ty : Int) == 2) = false := by simp; omega
  have d3 : ((t.ty : Int) == 3) = false := by simp; omega
  have d4 : ((t.ty : Int) == 4) = false := by simp; omega
  have d5 : ((t.ty : Int) == 5) = false := by simp; omega
  have d8 : ((t.ty : Int) == 8) = false := by simp; omega
  have d9 : ((t.ty : Int) == 9) = false := by simp; omega
  have d10 : ((t.ty : Int) == 10) = false := by simp; omega
  have RT := Row.new w 45 (tcells t)
  generalize (t.ty : Int) = y at *
  clear hy
  go_enter Tryz.func62, Tryz.ntmps62
  go_wp2_with (first
    | (have kk := rA; refine stT (.tmp 2) (.tmp 6) (by rfl) rfl gA zeroT zeroT rfl rfl rA ?_; intro w8 hg8 r8)
    | (have kk := rA; refine bdG [] (by rfl) rfl ?rowb ?_; exact bdT0 _)
    | (refine alG infoTz (by rfl) rfl ?_; intro gA wA a1 a2 a3 rA; have rT := RT.below a3 RT.lt; have c0 : wA.cell? ⟨w.heap.size, 0, none⟩ = some (.int .u8 y) := (by rw [rT.cell 0]; exact T0)))
  exact bodyPost_ret (retCT rfl _ _ 0 rfl (lvT r8)) rfl ⟨rfl, (bt (ba _ _) a3).grown hg8 (bt (ba _ _) a3).size (fun k hk => by cases hk; simp at a1; omega)⟩
/-- What unnamed answers of a type that tells a Tlv. -/
theorem unnamed_ex (t : Tl) (h : namB t.ty = true) : ∃ r : Tl, (∀ W, Calls Tryz.prog 62 #[.agg (tcells t).toArray] W fun e w' => e = .returned (.tuple #[.agg (tcells r).toArray, .bool true]) ∧ Below W.heap.size W w') ∧ r.key = unK t.key ∧ r.sn ≤ t.sn ∧ ∀ w, TSrc w t → TSrc w r := by
  have e0 : t.key.ty = t.ty := rfl
  unfold unK
  rw [e0]
  rcases namB_cases h with h | h | h | h | h | h | h
  · exact ⟨_, fun W => unnamed_2 t W h, by rw [if_pos h]; rfl, Nat.le_refl _, fun _ h => h⟩
  · exact ⟨_, fun W => unnamed_3 t W h, by rw [if_neg (by omega), if_pos h]; rfl, Nat.le_refl _, fun _ h => h⟩
  · exact ⟨_, fun W => unnamed_4 t W h, by rw [if_neg (by omega), if_neg (by omega), if_pos h]; rfl, Nat.zero_le _, fun _ _ => Src.nil _⟩
  · exact ⟨_, fun W => unnamed_5 t W h, by rw [if_neg (by omega), if_neg (by omega), if_neg (by omega), if_pos h]; rfl, Nat.zero_le _, fun _ _ => Src.nil _⟩
  · refine ⟨_, fun W => unnamed_8 t W h, ?_, ?_, ?_⟩
    · rw [t8_def, if_neg (by omega), if_neg (by omega), if_neg (by omega), if_neg (by omega), if_pos h]; rfl
    · rw [t8_def]; exact Nat.le_refl _
    · rw [t8_def]; exact fun _ h => h
  · exact ⟨_, fun W => unnamed_9 t W h, by rw [if_neg (by omega), if_neg (by omega), if_neg (by omega), if_neg (by omega), if_neg (by omega), if_pos h]; rfl, Nat.le_refl _, fun _ h => h⟩
  · exact ⟨_, fun W => unnamed_10 t W h, by rw [if_neg (by omega), if_neg (by omega), if_neg (by omega), if_neg (by omega), if_neg (by omega), if_neg (by omega)]; rfl, Nat.le_refl _, fun _ h => h⟩
theorem check_no (t : Tl) (w : World) (hy : namB t.ty = false) :
    Calls Tryz.prog 37 #[.agg (tcells t).toArray] w fun e w' => e = .returned (.int .i64 2) ∧ Below w.heap.size w w' := by
  have RT := Row.new w 45 (tcells t)
  have HU := fun W => unnamed_no t W hy
  clear hy
  go_enter Tryz.func37, Tryz.ntmps37
  go_wp2_with (first
    | (have kk := rA; refine stT (.tmp 3) (.tmp 8) (by rfl) rfl gA zeroT _ rfl rfl rA ?_; intro wC hgC rC; have rTC := (rT1.below a3 rT1.lt).grown hgC (fun e => by have := Option.some.inj e; have := rT1.lt; omega); have bC := (bt b1 a3).grown hgC (bt b1 a3).size (fun k hk => by cases hk; exact Nat.le_trans b1.size a1))
    | (have kk := hb1; refine alG infoTz (by rfl) rfl ?_; intro gA wA a1 a2 a3 rA)
    | (go_at_call 62; refine (HU _).mono ?_; rintro e w1 ⟨rfl, hb1⟩; have rT1 := RT.below hb1 RT.lt; have b1 := bt (ba w (.cells (tcells t).toArray 45)) hb1)
    | (refine ldT (.tmp 1) (by rfl) rfl w.heap.size t rfl RT ?_))
  go_ret
  exact ⟨rfl, bC⟩
theorem check_by (t r : Tl) (w : World) (hr : TSrc w r) (hrn : r.sn ≤ 100000)
    (hUn : ∀ W, Calls Tryz.prog 62 #[.agg (tcells t).toArray] W fun e w' => e = .returned (.tuple #[.agg (tcells r).toArray, .bool true]) ∧ Below W.heap.size W w') (bF : Bool)
    (hF : ∀ W, Calls Tryz.prog 64 #[.agg (tcells t).toArray] W fun e w' => e = .returned (.bool bF) ∧ Below W.heap.size W w') :
    Calls Tryz.prog 37 #[.agg (tcells t).toArray] w fun e w' => e = .returned (.int .i64 (if (sameB r.key { zeroK with ty := t.ty } && bF) = true then chkQ t.pr else 2)) ∧ Below w.heap.size w w' := by
  have HQ := checkQ_any t.pr
  obtain ⟨bS, hbS⟩ : ∃ b, sameB r.key { zeroK with ty := t.ty } = b := ⟨_, rfl⟩
  have HS : Hid (∀ W, Below w.heap.size w W → Calls Tryz.prog 63 #[.agg (tcells r).toArray, .agg (tcells { zeroT with ty := t.ty }).toArray] W fun e w' => e = .returned (.bool bS) ∧ Below W.heap.size W w') := fun W hW => by
    have := psame_any r { zeroT with ty := t.ty } W (Src.below hr hW (Src.lt hr)) (Src.nil _) hrn
    rw [← hbS]
    exact this
  rw [hbS]
  have RT := Row.new w 45 (tcells t)
  clear hrn hr hbS
  generalize chkQ t.pr = z at *
  generalize hty : t.ty = y at *
  have HTY : Hid (t.ty = y) := hty
  clear hty
  cases bS
  · go_enter Tryz.func37, Tryz.ntmps37
    go_wp2_with (first
        | (go_at_call 65; have kk := hb4; refine (HQ _).mono ?_; rintro e w5 ⟨rfl, hb5⟩)
        | (have kk := hb4; refine ldQ (.tmp 25) (by rfl) rfl _ _ t.pr rfl (rT4.rPr) ?_)
        | (go_at_call 64; have kk := hb3; refine (hF _).mono ?_; rintro e w4 ⟨rfl, hb4⟩; have rT4 := rT3.below hb4 rT3.lt)
        | (have kk := hb3; refine ldT (.tmp 1) (by rfl) rfl w.heap.size t rfl rT3 ?_)
        | (go_at_call 63; have kk := rC; refine (HS.out _ bC).mono ?_; rintro e w3 ⟨rfl, hb3⟩; have rT3 := rTC.below hb3 rTC.lt)
        | (have kk := rC; refine ldT (.tmp 3) (by rfl) rfl gA r rfl rC ?_)
        | (have kk := rA; refine stT (.tmp 3) (.tmp 8) (by rfl) rfl gA r _ rfl rfl rA ?_; intro wC hgC rC; have rTC := (rT1.below a3 rT1.lt).grown hgC (fun e => by have := Option.some.inj e; have := rT1.lt; omega); have bC := (bt b1 a3).grown hgC (bt b1 a3).size (fun k hk => by cases hk; exact Nat.le_trans b1.size a1); have c0 : wC.cell? ⟨w.heap.size, 0, none⟩ = some (.int .u8 (y : Int)) := (by have := rTC.cell 0; rw [this]; show some (Value.int .u8 (t.ty : Int)) = _; rw [HTY.out]))
        | (have kk := hb1; refine alG infoTz (by rfl) rfl ?_; intro gA wA a1 a2 a3 rA)
        | (go_at_call 62; refine (hUn _).mono ?_; rintro e w1 ⟨rfl, hb1⟩; have rT1 := RT.below hb1 RT.lt; have b1 := bt (ba w (.cells (tcells t).toArray 45)) hb1)
        | (refine ldT (.tmp 1) (by rfl) rfl w.heap.size t rfl RT ?_))
    go_ret
    exact ⟨rfl, bt bC hb3⟩
  · cases bF
    · go_enter Tryz.func37, Tryz.ntmps37
      go_wp2_with (first
          | (go_at_call 65; have kk := hb4; refine (HQ _).mono ?_; rintro e w5 ⟨rfl, hb5⟩)
          | (have kk := hb4; refine ldQ (.tmp 25) (by rfl) rfl _ _ t.pr rfl (rT4.rPr) ?_)
          | (go_at_call 64; have kk := hb3; refine (hF _).mono ?_; rintro e w4 ⟨rfl, hb4⟩; have rT4 := rT3.below hb4 rT3.lt)
          | (have kk := hb3; refine ldT (.tmp 1) (by rfl) rfl w.heap.size t rfl rT3 ?_)
          | (go_at_call 63; have kk := rC; refine (HS.out _ bC).mono ?_; rintro e w3 ⟨rfl, hb3⟩; have rT3 := rTC.below hb3 rTC.lt)
          | (have kk := rC; refine ldT (.tmp 3) (by rfl) rfl gA r rfl rC ?_)
          | (have kk := rA; refine stT (.tmp 3) (.tmp 8) (by rfl) rfl gA r _ rfl rfl rA ?_; intro wC hgC rC; have rTC := (rT1.below a3 rT1.lt).grown hgC (fun e => by have := Option.some.inj e; have := rT1.lt; omega); have bC := (bt b1 a3).grown hgC (bt b1 a3).size (fun k hk => by cases hk; exact Nat.le_trans b1.size a1); have c0 : wC.cell? ⟨w.heap.size, 0, none⟩ = some (.int .u8 (y : Int)) := (by have := rTC.cell 0; rw [this]; show some (Value.int .u8 (t.ty : Int)) = _; rw [HTY.out]))
          | (have kk := hb1; refine alG infoTz (by rfl) rfl ?_; intro gA wA a1 a2 a3 rA)
          | (go_at_call 62; refine (hUn _).mono ?_; rintro e w1 ⟨rfl, hb1⟩; have rT1 := RT.below hb1 RT.lt; have b1 := bt (ba w (.cells (tcells t).toArray 45)) hb1)
          | (refine ldT (.tmp 1) (by rfl) rfl w.heap.size t rfl RT ?_))
      go_ret
      exact ⟨rfl, bt (bt bC hb3) hb4⟩
    · go_enter Tryz.func37, Tryz.ntmps37
      go_wp2_with (first
          | (go_at_call 65; have kk := hb4; refine (HQ _).mono ?_; rintro e w5 ⟨rfl, hb5⟩)
          | (have kk := hb4; refine ldQ (.tmp 25) (by rfl) rfl _ _ t.pr rfl (rT4.rPr) ?_)
          | (go_at_call 64; have kk := hb3; refine (hF _).mono ?_; rintro e w4 ⟨rfl, hb4⟩; have rT4 := rT3.below hb4 rT3.lt)
          | (have kk := hb3; refine ldT (.tmp 1) (by rfl) rfl w.heap.size t rfl rT3 ?_)
          | (go_at_call 63; have kk := rC; refine (HS.out _ bC).mono ?_; rintro e w3 ⟨rfl, hb3⟩; have rT3 := rTC.below hb3 rTC.lt)
          | (have kk := rC; refine ldT (.tmp 3) (by rfl) rfl gA r rfl rC ?_)
          | (have kk := rA; refine stT (.tmp 3) (.tmp 8) (by rfl) rfl gA r _ rfl rfl rA ?_; intro wC hgC rC; have rTC := (rT1.below a3 rT1.lt).grown hgC (fun e => by have := Option.some.inj e; have := rT1.lt; omega); have bC := (bt b1 a3).grown hgC (bt b1 a3).size (fun k hk => by cases hk; exact Nat.le_trans b1.size a1); have c0 : wC.cell? ⟨w.heap.size, 0, none⟩ = some (.int .u8 (y : Int)) := (by have := rTC.cell 0; rw [this]; show some (Value.int .u8 (t.ty : Int)) = _; rw [HTY.out]))
          | (have kk := hb1; refine alG infoTz (by rfl) rfl ?_; intro gA wA a1 a2 a3 rA)
          | (go_at_call 62; refine (hUn _).mono ?_; rintro e w1 ⟨rfl, hb1⟩; have rT1 := RT.below hb1 RT.lt; have b1 := bt (ba w (.cells (tcells t).toArray 45)) hb1)
          | (refine ldT (.tmp 1) (by rfl) rfl w.heap.size t rfl RT ?_))
      go_ret
      exact ⟨rfl, bt (bt (bt bC hb3) hb4) hb5⟩
/-- packet.Check of any Tlv. -/
theorem checkT_any (t : Tl) (w : World) (ht : TSrc w t) (hn : t.sn ≤ 100000) :
    Calls Tryz.prog 37 #[.agg (tcells t).toArray] w fun e w' => e = .returned (.int .i64 (chkT t.key)) ∧ Below w.heap.size w w' := by
  have e0 : t.key.ty = t.ty := rfl
  have e1 : t.key.pr = t.pr := rfl
  unfold chkT
  rw [e0, e1]
  cases hy : namB t.ty
  · exact check_no t w hy
  · obtain ⟨r, h1, h2, h3, h4⟩ := unnamed_ex t hy
    have := check_by t r w (h4 w ht) (by omega) h1 _ (fun W => fits_any t W (TSrc.len ht) hy)
    rw [h2] at this
    exact this
end Go.Proofs.YtdibjgcokebfbaaGreat
