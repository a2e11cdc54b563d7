/-
  What a link takes: a configuration of times, slices of numbers; samples, what is smoothed, what it costs: the program and the document.
-/
import Derived.Test.YtacadlbhgelncaaRows
import Derived.WalkKit
import Derived.ProofKit
import Derived.WalkSpells
import Derived.WalkLawsBesides
import Derived.Below
import Derived.Deep.MidRow
import Derived.Deep.RegionHeld3
import Derived.Laws.CopyOwn
import Derived.ChangeKeysEq
import Derived.BigQuiet
namespace Go.Proofs.Ytacadlbhgelncaa.Rk
open Go.RowKit
set_option linter.unusedSimpArgs false
theorem name_world {R P : World → Prop} (w : World) (h : P w) (k : ∀ W, P W → R W) : R w := k w h
theorem at_lit {ops : Array Oper} {i : Nat} {o : Oper} {rest : List Oper} (h : ops.toList.drop i = o :: rest) : ops[i]? = some o := by
  have e : (ops.toList.drop i)[0]? = some o := by rw [h]; rfl
  rw [List.getElem?_drop] at e
  simpa using e
theorem take_lit {P : Program} {md : Region.Mode} {ops : Array Oper} {Q : Exit → Act → World → Prop} {S : World → Prop} {i : Nat} {oi : Oper} {rest : List Oper} {v : Value} {fuel : Nat} {listed : Array Bool} {a : Act} {w : World} (hi : ops.toList.drop i = oi :: rest)
    (hs : Region.noSelect ops = true) (hf : Region.free md ops listed i = true) (hr : (Region.ready md ops listed).contains i = true)
    (hQ : ∀ c a w, Q (.panic c) (a.put oi.dst v) w → Q (.panic c) a w) (hy : YieldsIf P ops S oi v a) (hS : S w)
    (h : wpAnyH P md ops Q S fuel (listed.setIfInBounds i true) (a.put oi.dst v) w) : wpAnyH P md ops Q S (fuel + 1) listed a w :=
  wpAnyH_take (at_lit hi) hs hf hr hQ hy hS h
theorem cons_lit {P : Program} {md : Region.Mode} {ops : Array Oper} {Q : Exit → Act → World → Prop} {S : World → Prop} {fuel : Nat} {listed : Array Bool} {a : Act} {w : World} {i : Nat} {o : Oper} {rest : List Oper} {rs : List Nat} (ho : ops.toList.drop i = o :: rest)
    (h : ∀ K' : Act → World → Prop, Shut (∀ a w, S w → (S w → wpAnyH P md ops Q S fuel (listed.setIfInBounds i true) a w) → K' a w) → if Region.wanted o (yielded ops a.tmps) = true then Oper.wp P o a w K' Q else K' (a.put o.dst undef) w)
    (hs : AllReadyH P md ops Q S fuel listed a w rs) : AllReadyH P md ops Q S fuel listed a w (i :: rs) := AllReadyH.cons (at_lit ho) h hs
/-- What a function that only makes memory answers. -/
def Gives (w : World) (v : Value) (e : Ending) (w' : World) : Prop := e = .returned v ∧ Below w.heap.size w w'
theorem wrap16 (z : Int) : IntKind.u16.wrap z = z % 65536 := by simp [IntKind.wrap, IntKind.signed, IntKind.bits]
theorem w64 (z : Int) (h : -9223372036854775808 ≤ z) (h' : z ≤ 9223372036854775807) : wrap64 z = z := by
  unfold wrap64; omega
theorem retC {P : Program} {fn : Func} {p : Tmp} {ty : TypeId} {v : Value} {w : World} (h : fn.results = #[.cell p ty]) (tmps : Array Value) (b o : Nat) (hp : tmps.getD p undef = .pointer (some ⟨b, o, none⟩))
    (hl : (loadVar ty ⟨b, o, none⟩).run P w = .ok v w) : (results fn tmps).run P w = .ok v w := by
  simp only [results, h]
  rw [Array.getD_eq_getD_getElem?] at hp
  simp [Sem.run_bind, hp, asAddr, hl, Result.andThen]
/-- A block of the call's own that holds these cells. -/
def Row (w : World) (g : Nat) (t : TypeId) (cs : List Value) : Prop := w.heap[g]? = some (.cells cs.toArray t (0, 0))
theorem Row.lt {w : World} {g : Nat} {t : TypeId} {cs : List Value} (h : Row w g t cs) : g < w.heap.size := (Array.getElem?_eq_some_iff.1 h).1
theorem Row.new (w : World) (t : TypeId) (cs : List Value) : Row (w.alloc (.cells cs.toArray t)) w.heap.size t cs := by
  show (w.heap.push _)[w.heap.size]? = _
  simp
theorem Row.alloc {w : World} {g : Nat} {t : TypeId} {cs : List Value} (h : Row w g t cs) (o : Obj) : Row (w.alloc o) g t cs := by
  show (w.heap.push _)[g]? = _
  rw [Array.getElem?_push_lt h.lt]
  exact (Array.getElem?_eq_getElem h.lt).symm.trans h
theorem Row.drew {w : World} {g : Nat} {t : TypeId} {cs : List Value} (h : Row w g t cs) : Row w.drew g t cs := h
theorem Row.below {w w' : World} {B g : Nat} {t : TypeId} {cs : List Value} (h : Row w g t cs) (hb : Below B w w') (hlt : g < B) : Row w' g t cs := (hb.block g hlt).trans h
theorem Row.cell {w : World} {g : Nat} {t : TypeId} {cs : List Value} (h : Row w g t cs) (j : Nat) : w.cell? ⟨g, j, none⟩ = cs[j]? := by
  rw [cell_of_row w g j cs.toArray t (0, 0) h]; simp
theorem Row.frozen {w : World} {g : Nat} {t : TypeId} {cs : List Value} (h : Row w g t cs) (j : Nat) : w.frozen? ⟨g, j, none⟩ = false := by
  unfold Row at h
  simp [World.frozen?, h]
theorem Row.range {w : World} {g : Nat} {t : TypeId} {cs : List Value} (h : Row w g t cs) : w.rangeAt g 0 cs := fun j v hv => by rw [Nat.zero_add, h.cell]; exact hv
theorem Row.there {w : World} {g : Nat} {t : TypeId} {cs : List Value} {n : Nat} (h : Row w g t cs) (hn : n ≤ cs.length) : w.there g 0 n := fun j hj => by
  rw [Nat.zero_add, h.cell, h.frozen]
  exact ⟨by simp; omega, rfl⟩
theorem Row.set {w : World} {g : Nat} {t : TypeId} {cs : List Value} (h : Row w g t cs) (j : Nat) (v : Value) : Row (w.setCell ⟨g, j, none⟩ v) g t (cs.set j v) := by
  unfold Row at *
  simp [World.setCell, Array.getElem?_modify, h]
theorem Row.setOther {w : World} {g : Nat} {t : TypeId} {cs : List Value} (h : Row w g t cs) (g' j : Nat) (v : Value) (hne : g' ≠ g) : Row (w.setCell ⟨g', j, none⟩ v) g t cs := by
  unfold Row at *
  simp [World.setCell, Array.getElem?_modify, h, hne]
theorem Row.setCellsOther {g : Nat} {t : TypeId} {cs : List Value} (g' : Nat) (hne : g' ≠ g) : ∀ (vs : List Value) (o : Nat) (w : World), Row w g t cs → Row (w.setCells g' o vs) g t cs
  | [], _, _, h => h
  | v :: r, o, w, h => by
    rw [World.setCells]
    exact Row.setCellsOther g' hne r (o + 1) _ (h.setOther g' o v hne)
theorem below_setCells {B : Nat} {w0 : World} (g : Nat) (h : B ≤ g) : ∀ (vs : List Value) (o : Nat) (w : World), Below B w0 w → Below B w0 (w.setCells g o vs)
  | [], _, _, hb => hb
  | v :: r, o, w, hb => by
    rw [World.setCells]
    exact below_setCells g h r (o + 1) _ (hb.setCell (p := ⟨g, o, none⟩) h v)
/-- A configuration of times. -/
structure Rt where
  on : Bool
  mi : Int
  ma : Int
  co : Int
  de : Int
def rcs (c : Rt) : List Value := [.bool c.on, .int .i64 c.mi, .int .i64 c.ma, .int .i64 c.co, .int .i64 c.de]
abbrev rtV (c : Rt) : Value := .agg #[.bool c.on, .int .i64 c.mi, .int .i64 c.ma, .int .i64 c.co, .int .i64 c.de]
/-- A slice of numbers. -/
structure Is (w : World) (ad : Option Addr) (n : Nat) (l : List Int) : Prop where
  len : l.length = n
  lies : n = 0 ∨ ∃ g o, ad = some ⟨g, o, none⟩ ∧ g < w.heap.size ∧ ∀ (j : Nat) (v : Int), l[j]? = some v → w.cell? ⟨g, o + j, none⟩ = some (.int .i64 v)
theorem Is.below {w w' : World} {B : Nat} {ad : Option Addr} {n : Nat} {l : List Int} (h : Is w ad n l) (hB : w.heap.size ≤ B) (hb : Below B w w') : Is w' ad n l :=
  ⟨h.len, h.lies.imp id fun ⟨g, o, e, hg, hl⟩ => ⟨g, o, e, Nat.lt_of_lt_of_le hg hb.size, fun j c hc => (hb.cell (p := ⟨g, o + j, none⟩) (Nat.lt_of_lt_of_le hg hB)).trans (hl j c hc)⟩⟩
/-! ### Samples -/
def awayZ (o n : Int) : Int := (n - o) % 4294967296
theorem wrap32 (z : Int) : IntKind.u32.wrap z = z % 4294967296 := by simp [IntKind.wrap, IntKind.signed, IntKind.bits]
def smpZ (a b d n : Int) : Int := if 2147483647 < awayZ a n ∨ awayZ a n < awayZ b d then 0 else awayZ a n - awayZ b d
def smpB (a b d n : Int) : Bool := decide (¬ (2147483647 < awayZ a n ∨ awayZ a n < awayZ b d))
theorem awayZ_0 (a b : Int) : 0 ≤ awayZ a b := by unfold awayZ; omega
theorem awayZ_1 (a b : Int) : awayZ a b < 4294967296 := by unfold awayZ; omega
theorem sample_any (a b d n : Int) (w : World) : Calls Try.prog 55 #[.int .u32 a, .int .u32 b, .int .u32 d, .int .u32 n] w fun e w' => e = .returned (.tuple #[.int .i64 (smpZ a b d n), .bool (smpB a b d n)]) ∧ w = w' := by
  have H1 : Hid (smpZ a b d n = if 2147483647 < awayZ a n ∨ awayZ a n < awayZ b d then 0 else awayZ a n - awayZ b d) := rfl
  have H2 : Hid (smpB a b d n = decide (¬ (2147483647 < awayZ a n ∨ awayZ a n < awayZ b d))) := rfl
  have e1 : IntKind.u32.wrap (n - a) = awayZ a n := wrap32 _
  have e2 : IntKind.u32.wrap (d - b) = awayZ b d := wrap32 _
  have p0 := awayZ_0 a n
  have p1 := awayZ_1 a n
  have q0 := awayZ_0 b d
  have q1 := awayZ_1 b d
  generalize smpZ a b d n = X at *
  generalize smpB a b d n = B at *
  generalize awayZ a n = x at *
  generalize awayZ b d = y at *
  by_cases h : 2147483647 < x
  · obtain rfl : X = 0 := by rw [H1.out, if_pos (.inl h)]
    obtain rfl : B = false := by rw [H2.out]; simp [h]
    go_enter Try.func55, Try.ntmps55
    go_wp2
    go_ret2
    exact ⟨rfl, rfl⟩
  by_cases h' : x < y
  · obtain rfl : X = 0 := by rw [H1.out, if_pos (.inr h')]
    obtain rfl : B = false := by rw [H2.out]; simp [h']
    go_enter Try.func55, Try.ntmps55
    go_wp2
    go_ret2
    exact ⟨rfl, rfl⟩
  · have hn : ¬ (2147483647 < x ∨ x < y) := by omega
    obtain rfl : X = x - y := by rw [H1.out, if_neg hn]
    obtain rfl : B = true := by rw [H2.out]; simpa using hn
    have e3 : IntKind.u32.wrap (x - y) = x - y := by rw [wrap32]; omega
    have e4 : wrap64 (x - y) = x - y := w64 _ (by omega) (by omega)
    clear hn
    go_enter Try.func55, Try.ntmps55
    go_wp2
    go_ret2
    exact ⟨rfl, rfl⟩
/-! ### The clock -/
def clkZ (t : Int) : Int := IntKind.u32.wrap (IntKind.u32.wrap t * 1000)
theorem clock_any (t : Int) (w : World) : Calls Try.prog 56 #[.int .i64 t] w fun e w' => e = .returned (.int .u32 (clkZ t)) ∧ w = w' := by
  go_enter Try.func56, Try.ntmps56
  go_wp2
  go_ret
  exact ⟨rfl, rfl⟩
/-! ### Smoothed times -/
def blZ (d o s : Int) : Int := if o < 0 then s else (o * (256 - d) + s * d) / 256
theorem blZ_ok (d o s : Int) (d0 : 1 ≤ d) (d1 : d ≤ 256) (o1 : o ≤ 2147483648) (s0 : 0 ≤ s) (s1 : s ≤ 2147483648) : 0 ≤ blZ d o s ∧ blZ d o s ≤ 2147483648 := by
  unfold blZ
  split
  · omega
  · have a1 : 0 ≤ o * (256 - d) := Int.mul_nonneg (by omega) (by omega)
    have a2 : o * (256 - d) ≤ 2147483648 * (256 - d) := Int.mul_le_mul_of_nonneg_right o1 (by omega)
    have b1 : 0 ≤ s * d := Int.mul_nonneg s0 (by omega)
    have b2 : s * d ≤ 2147483648 * d := Int.mul_le_mul_of_nonneg_right s1 (by omega)
    generalize o * (256 - d) = x at *
    generalize s * d = y at *
    omega
theorem blend_any (d o s : Int) (w : World) (d0 : 1 ≤ d) (d1 : d ≤ 256) (o1 : o ≤ 2147483648) (s0 : 0 ≤ s) (s1 : s ≤ 2147483648) : Calls Try.prog 73 #[.int .i64 d, .int .i64 o, .int .i64 s] w fun e w' => e = .returned (.int .i64 (blZ d o s)) ∧ w = w' := by
  have HX : Hid (blZ d o s = if o < 0 then s else (o * (256 - d) + s * d) / 256) := rfl
  generalize blZ d o s = X at *
  by_cases h : o < 0
  · obtain rfl : X = s := by rw [HX.out, if_pos h]
    go_enter Try.func73, Try.ntmps73
    go_wp2
    go_ret
    exact ⟨rfl, rfl⟩
  · obtain rfl : X = (o * (256 - d) + s * d) / 256 := by rw [HX.out, if_neg h]
    have a1 : 0 ≤ o * (256 - d) := Int.mul_nonneg (by omega) (by omega)
    have a2 : o * (256 - d) ≤ 2147483648 * (256 - d) := Int.mul_le_mul_of_nonneg_right o1 (by omega)
    have b1 : 0 ≤ s * d := Int.mul_nonneg s0 (by omega)
    have b2 : s * d ≤ 2147483648 * d := Int.mul_le_mul_of_nonneg_right s1 (by omega)
    have e1 : wrap64 (256 - d) = 256 - d := w64 _ (by omega) (by omega)
    have e2 : wrap64 (o * (256 - d)) = o * (256 - d) := w64 _ (by omega) (by omega)
    have e3 : wrap64 (s * d) = s * d := w64 _ (by omega) (by omega)
    have e4 : wrap64 (o * (256 - d) + s * d) = o * (256 - d) + s * d := w64 _ (by omega) (by omega)
    have e5 : (o * (256 - d) + s * d).tdiv 256 = (o * (256 - d) + s * d) / 256 := Int.tdiv_eq_ediv_of_nonneg (by omega)
    have e6 : wrap64 ((o * (256 - d) + s * d) / 256) = (o * (256 - d) + s * d) / 256 := w64 _ (by omega) (by omega)
    have h' : 0 ≤ o := by omega
    clear a1 a2 b1 b2 h HX
    go_enter Try.func73, Try.ntmps73
    go_wp2
    go_ret
    exact ⟨congrArg (fun z => Ending.returned (Value.int .i64 z)) e6, rfl⟩
def smZ (d o : Int) (l : List Int) : Int := l.foldl (blZ d) o
theorem smZ_step (d o : Int) (l : List Int) (j : Nat) (h : j < l.length) : smZ d o (l.take (j + 1)) = blZ d (smZ d o (l.take j)) l[j] := by
  unfold smZ
  rw [List.take_succ_eq_append_getElem h, List.foldl_append]
  rfl
theorem smZ_le (d : Int) (d0 : 1 ≤ d) (d1 : d ≤ 256) : ∀ (l : List Int) (o : Int), o ≤ 2147483648 → (∀ s ∈ l, 0 ≤ s ∧ s ≤ 2147483648) → smZ d o l ≤ 2147483648
  | [], o, h, _ => h
  | s :: r, o, h, hl => by
    have hs := hl s (List.mem_cons_self ..)
    exact smZ_le d d0 d1 r (blZ d o s) (blZ_ok d o s d0 d1 h hs.1 hs.2).2 fun x hx => hl x (List.mem_cons_of_mem _ hx)
theorem smooth_any (c : Rt) (o : Int) (ad : Option Addr) (n k : Nat) (l : List Int) (w : World) (d0 : 1 ≤ c.de) (d1 : c.de ≤ 256) (o1 : o ≤ 2147483648) (hl : ∀ s ∈ l, 0 ≤ s ∧ s ≤ 2147483648) (hn : n ≤ 140737488355328) (hs : Is w ad n l) :
    Calls Try.prog 57 #[rtV c, .int .i64 o, .slice ad n k] w (Gives w (.int .i64 (smZ c.de o l))) := by
  have HL : Hid (l.length = n) := hs.len
  obtain ⟨on, mi, ma, co, de⟩ := c
  dsimp only at d0 d1 ⊢
  go_enter Try.func57, Try.ntmps57
  go_wp2
  have r0 := Row.new w 64 [.bool on, .int .i64 mi, .int .i64 ma, .int .i64 co, .int .i64 de]
  have hb0 := (Below.refl w.heap.size w).alloc (Nat.le_refl _) (.cells #[.bool on, .int .i64 mi, .int .i64 ma, .int .i64 co, .int .i64 de] 64)
  generalize hW : w.alloc _ = W at *
  clear hW
  go_loopw [1, 11] (fun v i wr => ∃ j : Nat, j ≤ n ∧ i = .int .i64 j ∧ v = .int .i64 (smZ de o (l.take j)) ∧ W = wr) (fun _ i _ => n - (intOf i).toNat)
  case atStart => exact ⟨0, Nat.zero_le _, rfl, rfl, rfl⟩
  case round =>
    obtain ⟨j, hj, rfl, rfl, rfl⟩ := hrel
    by_cases hlt : j < n
    · rcases hs.lies with h0 | ⟨g, p, rfl, hg, hc⟩
      · omega
      have hjl : j < l.length := by rw [HL.out]; exact hlt
      have hq := (hb0.cell (p := ⟨g, p + j, none⟩) hg).trans (hc j _ (List.getElem?_eq_getElem hjl))
      have ok := hl l[j] (List.getElem_mem hjl)
      have HS : Hid (smZ de o (l.take (j + 1)) = blZ de (smZ de o (l.take j)) l[j]) := smZ_step de o l j hjl
      have hv := smZ_le de d0 d1 (l.take j) o o1 fun s hs => hl s (List.mem_of_mem_take hs)
      have C := fun w => blend_any de (smZ de o (l.take j)) l[j] w d0 d1 hv ok.1 ok.2
      generalize l[j] = q at *
      generalize smZ de o (l.take j) = V at *
      have hji : (j : Int) < (n : Int) := by omega
      have c4 : W.cell? ⟨w.heap.size, 4, none⟩ = some (.int .i64 de) := r0.cell 4
      clear hl hc ok hv hs
      generalize blZ de V q = X at *
      go_wp2_with (go_at_call 73; refine (C _).mono ?_; rintro e w' ⟨rfl, rfl⟩)
      go_roundw
      case rel => exact ⟨j + 1, by omega, by go_num, by rw [HS.out], by simp⟩
      case measure => simp [intOf]; omega
    · go_wp2
      go_ret
      refine ⟨?_, hb0⟩
      rw [List.take_of_length_le (by rw [HL.out]; omega)]
      rfl
end Go.Proofs.Ytacadlbhgelncaa.Rk
