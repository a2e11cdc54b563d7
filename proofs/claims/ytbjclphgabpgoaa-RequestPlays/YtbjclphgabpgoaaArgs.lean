/-
  Acts; right; arguments: what their readings are; readings that stay.
-/
import Derived.Test.YtbjclphgabpgoaaR3
import Derived.OpenShut
import Derived.ChangeOld
import Derived.Below
import Derived.SizedLaws
import Derived.ShutString
import Derived.Deep.Slices
import Derived.Deep.SlicePairs
namespace Go.Proofs.Ytbjclphgabpgoaa
open Go.RowKit Go.Maps
set_option linter.unusedSimpArgs false
set_option linter.unusedVariables false
set_option maxRecDepth 20000
/-- An act. -/
structure Ac where
  k : Int
  g : Int
  p : Pr
  i : Id8
  s : Int
  m : Int
def ecs (s m : Int) : List Value := [.int .u16 s, .int .u16 m]
def acs (x : Ac) : List Value := [.int .i64 x.k, .int .i64 x.g] ++ (qcells x.p ++ (icells x.i ++ ecs x.s x.m))
theorem acs_len (x : Ac) : (acs x).length = 46 := by simp [acs, qcells_len, icells_len, ecs]
theorem acs_one (x : Ac) : ∀ u ∈ acs x, u.oneCell' = true := by
  intro u hu
  simp only [acs, ecs, List.mem_append] at hu
  rcases hu with h | h | h | h
  · simp at h
    rcases h with rfl | rfl <;> rfl
  · exact qcells_one _ u h
  · exact icells_one _ u h
  · simp at h
    rcases h with rfl | rfl <;> rfl
def zeroAc : Ac := ⟨0, 0, zeroQ, zeroI, 0, 0⟩
theorem infoAcs : (Try.prog.info? 44).map (·.size) = some 46 := by kernel_rfl
theorem infoAcz : (Try.prog.info? 44).map (·.zero) = some (some (.agg (acs zeroAc).toArray)) := by kernel_rfl
def LC (w : World) (b o : Nat) (x : Ac) : Prop := w.rangeAt b o (acs x)
section
variable {w : World} {b o : Nat} {x : Ac}
theorem LC.k (h : LC w b o x) : w.cell? ⟨b, o, none⟩ = some (.int .i64 x.k) := by simpa using h 0 _ rfl
theorem LC.g (h : LC w b o x) : w.cell? ⟨b, o + 1, none⟩ = some (.int .i64 x.g) := h 1 _ rfl
theorem LC.t1 (h : LC w b o x) : w.rangeAt b (o + 2) (qcells x.p ++ (icells x.i ++ ecs x.s x.m)) := rangeAt_right h rfl
theorem LC.p (h : LC w b o x) : LQ w b (o + 2) x.p := rangeAt_left h.t1
theorem LC.t2 (h : LC w b o x) : w.rangeAt b (o + 36) (icells x.i ++ ecs x.s x.m) := by have := rangeAt_right h.t1 (qcells_len _); rwa [Nat.add_assoc] at this
theorem LC.i (h : LC w b o x) : LI w b (o + 36) x.i := rangeAt_left h.t2
theorem LC.d (h : LC w b o x) : Sn.LD w b (o + 44) x.s x.m := by have := rangeAt_right h.t2 (icells_len _); rwa [Nat.add_assoc] at this
theorem LC.s (h : LC w b o x) : w.cell? ⟨b, o + 44, none⟩ = some (.int .u16 x.s) := h.d.one
theorem LC.below {w' : World} {B : Nat} (h : LC w b o x) (hb : Below B w w') (hlt : b < B) : LC w' b o x := rangeAt_below h hb hlt
end
/-- Acts in memory. -/
structure AsW (w : World) (ad : Option Addr) (l : List Ac) : Prop where
  lies : l = [] ∨ ∃ g o, ad = some ⟨g, o, none⟩ ∧ g < w.heap.size ∧ ∀ (j : Nat) (p : Ac), l[j]? = some p → LC w g (o + j * 46) p
theorem AsW.below {w w' : World} {ad : Option Addr} {l : List Ac} (h : AsW w ad l) (hb : Below w.heap.size w w') : AsW w' ad l :=
  ⟨h.lies.imp id fun ⟨g, o, e, hg, hl⟩ => ⟨g, o, e, Nat.lt_of_lt_of_le hg hb.size, fun j p hp => rangeAt_below (hl j p hp) hb hg⟩⟩
section
variable {ops : Array Oper} {rest : List Oper} {op : Oper} {a : Act} {w : World} {Q : Exit → Act → World → Prop} {K : Act → World → Prop} {E : Prop} {S : World → Prop}
theorem ldAc (x : Operand) (hw : Region.wanted op (yielded ops a.tmps) = true) (ho : op.op = .load 44 x) (b o : Nat) (n : Ac) (hx : a.eval x = .pointer (some ⟨b, o, none⟩)) (hc : LC w b o n)
    (h : wpList Try.prog ops Q rest (a.put op.dst (.agg (acs n).toArray)) w) : wpList Try.prog ops Q (op :: rest) a w :=
  wpList_step fun K hK => by
    rw [if_pos hw]
    exact wp_load_mid _ x ho b o hx (acs n) _ hc Try.underlying44 rfl (by rw [infoAcs, acs_len]) (hK _ _ h)
theorem stAc (x y : Operand) (hw : Region.wanted op (yielded ops a.tmps) = true) (ho : op.op = .store 44 x y) (b : Nat) (n u : Ac) (hx : a.eval x = .pointer (some ⟨b, 0, none⟩)) (hy : a.eval y = .agg (acs n).toArray) (hr : Row w b 44 (acs u))
    (h : ∀ W, w.grownBy W (some b) → Row W b 44 (acs n) → wpList Try.prog ops Q rest (a.put op.dst undef) W) : wpList Try.prog ops Q (op :: rest) a w :=
  wpList_step fun K hK => by
    rw [if_pos hw]
    refine wp_store_mid _ x y ho b 0 _ hx hy (by simpa [acs_len] using hr.there (n := 46) (by rw [acs_len]; omega)) (by rw [infoAcs]; simp [acs_len]) (all_oneCell_toArray (acs_one n)) (hK _ _ (h _ (grownBy_setCells b _ _ _) ?_))
    have := Row.setCells (acs n) [] w (acs u) hr (by rw [acs_len, acs_len])
    simpa using this
end
def ncs (q : Int) : List Value := [.int .u16 q]
/-- Numbers in memory. -/
structure NsW (w : World) (ad : Option Addr) (l : List Int) : Prop where
  lies : l = [] ∨ ∃ g o, ad = some ⟨g, o, none⟩ ∧ g < w.heap.size ∧ ∀ (j : Nat) (p : Int), l[j]? = some p → w.rangeAt g (o + j * 1) (ncs p)
theorem NsW.at_ {w : World} {ad : Option Addr} {l : List Int} (h : NsW w ad l) {j : Nat} (hj : j < l.length) : ∃ g o, ad = some ⟨g, o, none⟩ ∧ w.cell? ⟨g, o + j, none⟩ = some (.int .u16 l[j]) := by
  rcases h.lies with h0 | ⟨g, o, rfl, _, hc⟩
  · rw [h0] at hj; simp at hj
  · refine ⟨g, o, rfl, ?_⟩
    have := hc j l[j] (List.getElem?_eq_getElem hj) 0 _ rfl
    simpa using this
/-- Acts that are right. -/
def AcOk (x : Ac) : Prop := 0 ≤ x.g ∧ x.g ≤ 1073741824
theorem all_step {α : Type} {P : α → Prop} {l : List α} {j : Nat} (h : ∀ x ∈ l.take j, P x) (hj : j < l.length) (hp : P l[j]) : ∀ x ∈ l.take (j + 1), P x := by
  intro x hx
  rw [List.take_succ_eq_append_getElem hj] at hx
  rcases List.mem_append.1 hx with hx | hx
  · exact h x hx
  · simp at hx; subst hx; exact hp
def RightP (l : List Ac) (w : World) (e : Ending) (w' : World) : Prop := ∃ b, e = .returned (.bool b) ∧ w = w' ∧ (b = true → l.length ≤ 150 ∧ ∀ x ∈ l, AcOk x)
theorem right_any (ad : Option Addr) (c : Nat) (l : List Ac) (w : World) (hl : AsW w ad l) (hn : l.length ≤ maxLen) : Calls Try.prog 8 #[.slice ad l.length c] w (RightP l w) := by
  have HN : Hid (l.length ≤ 9223372036854775807) := hn
  clear hn
  go_enter Try.func8, Try.ntmps8
  go_wp2_with fail
  go_loopw [3] (fun i wr => ∃ j : Nat, j ≤ l.length ∧ j ≤ 151 ∧ i = .int .i64 j ∧ (∀ x ∈ l.take j, AcOk x) ∧ w = wr) (fun i _ => 151 - (intOf i).toNat)
  case atStart => exact ⟨0, by omega, by omega, rfl, by simp, rfl⟩
  case round =>
    obtain ⟨j, hj, hj9, rfl, hok, rfl⟩ := hrel
    by_cases hlt : j < l.length ∧ j ≤ 150
    · obtain ⟨hlt, hj8⟩ := hlt
      rcases hl.lies with h0 | ⟨g, o, rfl, hg, hcs⟩
      · rw [h0] at hlt; simp at hlt
      have hq := (hcs j l[j] (List.getElem?_eq_getElem hlt)).g
      have HS : Hid (AcOk l[j] → ∀ x ∈ l.take (j + 1), AcOk x) := fun h => all_step hok hlt h
      have hji : (j : Int) < (l.length : Int) := by omega
      have hj8' : (j : Int) ≤ 150 := by omega
      have hw : wrap64 ((j : Int) + 1) = (j : Int) + 1 := by unfold wrap64; omega
      have HJ : Hid (j + 1 ≤ l.length ∧ j + 1 ≤ 151) := ⟨by omega, by omega⟩
      have HM : Hid (151 - ((j : Int) + 1).toNat < 151 - ((j : Int)).toNat) := by show _ < _; omega
      have HA : Hid (∀ g, l[j].g = g → 0 ≤ g → g ≤ 1073741824 → AcOk l[j]) := fun g e h1 h2 => ⟨by omega, by omega⟩
      obtain ⟨z, hz⟩ : ∃ z, l[j].g = z := ⟨_, rfl⟩
      rw [hz] at hq
      have HZ : Hid (l[j].g = z) := hz
      clear hz hcs hok hj hj9 hj8 hl
      by_cases h1 : z < 0
      · go_wp2_with fail
        go_ret
        exact ⟨false, rfl, rfl, fun h => by cases h⟩
      · by_cases h2 : 1073741824 < z
        · go_wp2_with fail
          go_ret
          exact ⟨false, rfl, rfl, fun h => by cases h⟩
        · have HO := HS.out (HA.out z HZ.out (by omega) (by omega))
          have h3 : 0 ≤ z := by omega
          have h4 : z ≤ 1073741824 := by omega
          clear h1 h2 HA HS
          go_wp2_with fail
          go_roundw
          case rel => exact ⟨j + 1, HJ.out.1, HJ.out.2, by first | rfl | go_num, HO, trivial⟩
          case measure => simp only [intOf]; exact HM.out
    · by_cases h1 : j < l.length
      · have h2 : ¬ (j : Int) ≤ 150 := by omega
        have h3 : (j : Int) < (l.length : Int) := by omega
        have h4 : ¬ (l.length : Int) ≤ 150 := by omega
        clear hlt h1 hok
        go_wp2_with fail
        go_ret
        exact ⟨false, rfl, rfl, fun h => by cases h⟩
      · have hjl : j = l.length := by omega
        subst hjl
        rw [List.take_length] at hok
        have h3 : ¬ (l.length : Int) < (l.length : Int) := by omega
        clear hlt h1
        go_wp2_with fail
        go_ret
        refine ⟨_, rfl, rfl, fun h => ⟨?_, hok⟩⟩
        have := of_decide_eq_true h
        omega
end Go.Proofs.Ytbjclphgabpgoaa
namespace Go.Proofs.Ytbjclphgabpgoaa
theorem okWide_arr {P : Program} {w : World} {r : Reach} {b t n : Nat} {e : TypeId} {v : Value} (ht : P.underlying t = some (.array n e)) (h : Value.okWide P w r b t v) : ∃ cs, v = .agg cs := by
  simp only [Value.okWide, ht] at h
  obtain ⟨cs, h1, _⟩ := h
  exact ⟨cs, h1⟩
open Go.RowKit Go.ChangeShapes Go.WideShapes Go.ChangeAt Go.Deep
theorem own : ownKnob Try.prog.godebug = none := by kernel_rfl
theorem laid_out : laidOutB Try.prog = true := by kernel_rfl
section
variable {H : Type} {enc : TypeId × Value → H} {w : World} {base : Nat} {spare : Nat → Bool} {held : Bool}
theorem bytes_of (m : Nat) : ∀ (cs : List Value) (xs : List (DataW H × List MemPlace)), cs.length = xs.length → (∀ i, i < xs.length → DataW.trod enc Try.prog w base spare held m 5 ((cs.drop i).take 1) = xs[i]?) → ∃ l : List UInt8, cs = bcells l
  | [], _, _, _ => ⟨[], rfl⟩
  | c :: r, [], h, _ => by simp at h
  | c :: r, x :: ys, h, k => by
    obtain ⟨l, rfl⟩ := bytes_of m r ys (by simpa using h) (fun i hi => by have := k (i + 1) (by simp; omega); simpa using this)
    obtain ⟨n, e1, _, hw⟩ := DataW.trod_int Try.underlying5 (show DataW.trod enc Try.prog w base spare held m 5 [c] = some x by simpa using k 0 (by simp))
    obtain ⟨h0, h1⟩ := bounds_u8 hw
    simp only [List.cons.injEq, and_true] at e1
    refine ⟨UInt8.ofNat n.toNat :: l, ?_⟩
    rw [e1]
    show _ = Value.int .u8 ((UInt8.ofNat n.toNat).toNat : Int) :: bcells l
    have : (UInt8.ofNat n.toNat).toNat = n.toNat := by simp; omega
    rw [this]
    congr 2
    omega
theorem cellsA : Try.prog.cellsOf 34 = 16 := by kernel_rfl
theorem cellsP : Try.prog.cellsOf 36 = 17 := by kernel_rfl
theorem cellsQ : Try.prog.cellsOf 38 = 34 := by kernel_rfl
theorem cells_u8 : Try.prog.cellsOf 5 = 1 := by kernel_rfl
theorem cells_int : Try.prog.cellsOf 3 = 1 := by kernel_rfl
theorem ad_of {fuel : Nat} {cs : List Value} {x : DataW H × List MemPlace} (h : DataW.trod enc Try.prog w base spare held fuel 34 cs = some x) : ∃ a : Ad, cs = acells a := by
  obtain ⟨xs, m, _, _, hl, hn, hel⟩ := DataW.trod_array Try.underlying34 h
  rw [cells_u8] at hel
  obtain ⟨l, rfl⟩ := bytes_of m cs xs (by rw [hl, hn, cellsA]) (fun i hi => by have := hel i (by omega); rwa [Nat.mul_one] at this)
  exact ⟨⟨l, by rw [bcells_length, cellsA] at hl; exact hl⟩, rfl⟩
theorem pf_of {fuel : Nat} {cs : List Value} {x : DataW H × List MemPlace} (h : DataW.trod enc Try.prog w base spare held fuel 36 cs = some x) : ∃ p : Pf, cs = pcells p ∧ -9223372036854775808 ≤ p.n ∧ p.n ≤ 9223372036854775807 := by
  obtain ⟨y0, y1, n, _, hl, h0, h1⟩ := trod_struct2 Try.underlying36 h
  dsimp only at h0 h1
  rw [cellsA] at h0
  rw [cells_int] at h1
  rw [cellsP] at hl
  obtain ⟨a, ha⟩ := ad_of h0
  obtain ⟨k, e1, _, hw⟩ := DataW.trod_int Try.underlying3 h1
  refine ⟨⟨a, k⟩, ?_, bounds_i64 hw⟩
  rw [pcells, ← ha, ← e1, List.drop_zero]
  have : (cs.drop 16).take 1 = cs.drop 16 := List.take_of_length_le (by simp; omega)
  rw [this, List.take_append_drop]
theorem pr_of {fuel : Nat} {cs : List Value} {x : DataW H × List MemPlace} (h : DataW.trod enc Try.prog w base spare held fuel 38 cs = some x) : ∃ q : Pr, cs = qcells q ∧ (-9223372036854775808 ≤ q.d.n ∧ q.d.n ≤ 9223372036854775807) ∧ -9223372036854775808 ≤ q.s.n ∧ q.s.n ≤ 9223372036854775807 := by
  obtain ⟨y0, y1, n, _, hl, h0, h1⟩ := trod_struct2 Try.underlying38 h
  dsimp only at h0 h1
  rw [cellsP] at h0 h1
  rw [cellsQ] at hl
  obtain ⟨d, hd, d1⟩ := pf_of h0
  obtain ⟨s, hs, s1⟩ := pf_of h1
  refine ⟨⟨d, s⟩, ?_, d1, s1⟩
  rw [qcells, ← hd, ← hs, List.drop_zero]
  have : (cs.drop 17).take 17 = cs.drop 17 := List.take_of_length_le (by simp; omega)
  rw [this, List.take_append_drop]
theorem cells_I : Try.prog.cellsOf 40 = 8 := by kernel_rfl
theorem id_of {fuel : Nat} {cs : List Value} {x : DataW H × List MemPlace} (h : DataW.trod enc Try.prog w base spare held fuel 40 cs = some x) : ∃ a : Id8, cs = icells a := by
  obtain ⟨xs, m, _, _, hl, hn, hel⟩ := DataW.trod_array Try.underlying40 h
  rw [cells_u8] at hel
  obtain ⟨l, rfl⟩ := bytes_of m cs xs (by rw [hl, hn, cells_I]) (fun i hi => by have := hel i (by omega); rwa [Nat.mul_one] at this)
  exact ⟨⟨l, by rw [bcells_length, cells_I] at hl; exact hl⟩, rfl⟩
theorem drop_split (cs : List Value) (o n m : Nat) (h : o + n = m) : cs.drop o = (cs.drop o).take n ++ cs.drop m := by
  rw [← h, ← List.drop_drop, List.take_append_drop]
theorem cells16 : Try.prog.cellsOf 23 = 1 := by kernel_rfl
theorem cellsD : Try.prog.cellsOf 42 = 2 := by kernel_rfl
theorem cells_G : Try.prog.cellsOf 44 = 46 := by kernel_rfl
theorem d_of {fuel : Nat} {cs : List Value} {x : DataW H × List MemPlace} (h : DataW.trod enc Try.prog w base spare held fuel 42 cs = some x) : ∃ a b : Int, cs = [.int .u16 a, .int .u16 b] ∧ (0 ≤ a ∧ a ≤ 65535) ∧ 0 ≤ b ∧ b ≤ 65535 := by
  obtain ⟨y0, y1, n, _, hl, h0, h1⟩ := trod_struct2 Try.underlying42 h
  dsimp only at h0 h1
  rw [cells16] at h0 h1
  rw [cellsD] at hl
  match cs, hl with
  | [c, d], _ =>
    obtain ⟨k, e1, _, hw⟩ := DataW.trod_int Try.underlying23 h0
    obtain ⟨k', e1', _, hw'⟩ := DataW.trod_int Try.underlying23 h1
    simp at e1 e1'
    exact ⟨k, k', by rw [e1, e1'], bounds_u16 hw, bounds_u16 hw'⟩
theorem wfQ_of {q : Pr} (h1 : -9223372036854775808 ≤ q.d.n) (h2 : q.d.n ≤ 9223372036854775807) (h3 : -9223372036854775808 ≤ q.s.n) (h4 : q.s.n ≤ 9223372036854775807) : wfQ q := by
  constructor
  · unfold wfI
    simp [Lit.wf, IntKind.min, IntKind.max, IntKind.signed, IntKind.bits]
    omega
  · unfold wfI
    simp [Lit.wf, IntKind.min, IntKind.max, IntKind.signed, IntKind.bits]
    omega
/-- What of an act is known. -/
structure AcFit (x : Ac) : Prop where
  q : wfQ x.p
  s0 : 0 ≤ x.s
  s1 : x.s < 65536
  m0 : 0 ≤ x.m
  m1 : x.m < 65536
theorem ac_of {fuel : Nat} {cs : List Value} {x : DataW H × List MemPlace} (h : DataW.trod enc Try.prog w base spare held fuel 44 cs = some x) : ∃ a : Ac, cs = acs a ∧ AcFit a := by
  obtain ⟨xs, n, _, _, hl, hlen, hf⟩ := DataW.trod_struct Try.underlying44 h
  rw [cells_G] at hl
  match xs, hlen with
  | [y0, y1, y2, y3, y4], _ =>
    have f0 : DataW.trod enc Try.prog w base spare held n 3 ((cs.drop 0).take (Try.prog.cellsOf 3)) = some y0 := hf 0 _ rfl
    have f1 : DataW.trod enc Try.prog w base spare held n 3 ((cs.drop 1).take (Try.prog.cellsOf 3)) = some y1 := hf 1 _ rfl
    have f2 : DataW.trod enc Try.prog w base spare held n 38 ((cs.drop 2).take (Try.prog.cellsOf 38)) = some y2 := hf 2 _ rfl
    have f3 : DataW.trod enc Try.prog w base spare held n 40 ((cs.drop 36).take (Try.prog.cellsOf 40)) = some y3 := hf 3 _ rfl
    have f4 : DataW.trod enc Try.prog w base spare held n 42 ((cs.drop 44).take (Try.prog.cellsOf 42)) = some y4 := hf 4 _ rfl
    rw [cells_int] at f0 f1
    rw [cellsQ] at f2
    rw [cells_I] at f3
    rw [cellsD] at f4
    obtain ⟨z0, e0, _, _⟩ := DataW.trod_int Try.underlying3 f0
    obtain ⟨z1, e1, _, _⟩ := DataW.trod_int Try.underlying3 f1
    obtain ⟨q2, e2, b2⟩ := pr_of f2
    obtain ⟨a3, e3⟩ := id_of f3
    obtain ⟨s4, m4, e4, b4⟩ := d_of f4
    refine ⟨⟨z0, z1, q2, a3, s4, m4⟩, ?_, wfQ_of b2.1.1 b2.1.2 b2.2.1 b2.2.2, b4.1.1, by show s4 < 65536; omega, b4.2.1, by show m4 < 65536; omega⟩
    have g0 := drop_split cs 0 1 1 rfl
    have g1 := drop_split cs 1 1 2 rfl
    have g2 := drop_split cs 2 34 36 rfl
    have g3 := drop_split cs 36 8 44 rfl
    have g4 := drop_split cs 44 2 46 rfl
    have gl : cs.drop 46 = [] := List.drop_eq_nil_of_le (by omega)
    rw [gl, e4] at g4
    rw [g4, e3] at g3
    rw [g3, e2] at g2
    rw [g2, e1] at g1
    rw [g1, e0] at g0
    rw [List.drop_zero] at g0
    rw [g0]
    simp [acs, ecs]
theorem n_of {fuel : Nat} {cs : List Value} {x : DataW H × List MemPlace} (h : DataW.trod enc Try.prog w base spare held fuel 23 cs = some x) : ∃ q : Int, cs = ncs q ∧ 0 ≤ q ∧ q ≤ 65535 := by
  obtain ⟨k, e1, _, hw⟩ := DataW.trod_int Try.underlying23 h
  exact ⟨k, e1, bounds_u16 hw⟩
variable {r : Reach} {b0 : Nat} {v : Value} {d : DataW H} {p : List MemPlace}
set_option maxRecDepth 100000 in
theorem openQ (hv : Value.okWide Try.prog w r b0 38 v) (h : DataW.Trod enc Try.prog w base spare held 38 v d p) : ∃ a : Pr, v = (Value.agg (qcells a).toArray) ∧ (-9223372036854775808 ≤ a.d.n ∧ a.d.n ≤ 9223372036854775807) ∧ -9223372036854775808 ≤ a.s.n ∧ a.s.n ≤ 9223372036854775807 := by
  obtain ⟨cs, rfl, _⟩ := okWide_struct Try.underlying38 hv
  obtain ⟨fuel, hf⟩ := h
  obtain ⟨a, ha, hb⟩ := pr_of hf
  exact ⟨a, by rw [← ha]; simp [Value.cells], hb⟩
set_option maxRecDepth 100000 in
theorem openI (hv : Value.okWide Try.prog w r b0 40 v) (h : DataW.Trod enc Try.prog w base spare held 40 v d p) : ∃ a : Id8, v = idV a := by
  obtain ⟨cs, rfl⟩ := okWide_arr Try.underlying40 hv
  obtain ⟨fuel, hf⟩ := h
  obtain ⟨a, ha⟩ := id_of hf
  exact ⟨a, by rw [idV, ← ha]; simp [Value.cells]⟩
set_option maxRecDepth 100000 in
theorem openD (hv : Value.okWide Try.prog w r b0 42 v) (h : DataW.Trod enc Try.prog w base spare held 42 v d p) : ∃ a b : Int, v = .agg #[.int .u16 a, .int .u16 b] ∧ (0 ≤ a ∧ a ≤ 65535) ∧ 0 ≤ b ∧ b ≤ 65535 := by
  obtain ⟨cs, rfl, _⟩ := okWide_struct Try.underlying42 hv
  obtain ⟨fuel, hf⟩ := h
  obtain ⟨a, b, ha, hb⟩ := d_of hf
  simp [Value.cells] at ha
  refine ⟨a, b, ?_, hb⟩
  congr 1
  cases cs; simp_all
set_option maxRecDepth 100000 in
theorem openG {α : Type} (E : α → List Value) (s : Nat) (z : α) (P : α → Prop) {T ST : TypeId} (hU : Try.prog.underlying ST = some (.slice T)) (hs : Try.prog.cellsOf T = s) (s0 : 0 < s) (hE : ∀ q, (E q).length = s)
    (hel : ∀ {fuel : Nat} {cs : List Value} {x : DataW H × List MemPlace}, DataW.trod enc Try.prog w base (fun _ => true) held fuel T cs = some x → ∃ q, cs = E q ∧ P q)
    (hv : Value.okWide Try.prog w r b0 ST v) (h : DataW.Trod enc Try.prog w base (fun _ => true) held ST v d p) : ∃ (ad : Option Addr) (len cap : Nat) (l : List α), v = .slice ad len cap ∧ l.length = len ∧ (∀ q ∈ l, P q) ∧ (l = [] ∨ ∃ b o, ad = some ⟨b, o, none⟩ ∧ b < w.heap.size ∧ ∀ (j : Nat) (q : α), l[j]? = some q → w.rangeAt b (o + j * s) (E q)) ∧ len ≤ cap ∧ cap ≤ maxLen := by
  obtain ⟨ad, len, cap, rfl⟩ := okWide_slice hU hv
  obtain ⟨fuel, hf⟩ := h
  rcases open_slice hU hf with ⟨hcs, _⟩ | ⟨a, len', cap', m, n, D, Pl, hcs, _, hl, hmx, hmm, _, hx⟩
  · simp [Value.cells] at hcs
    obtain ⟨rfl, rfl, rfl⟩ := hcs
    exact ⟨none, 0, 0, [], rfl, rfl, (fun _ h => by cases h), .inl rfl, Nat.le_refl _, Nat.zero_le _⟩
  · simp [Value.cells] at hcs
    obtain ⟨rfl, rfl, rfl⟩ := hcs
    by_cases h0 : len = 0
    · subst h0
      exact ⟨_, 0, cap, [], rfl, rfl, (fun _ h => by cases h), .inl rfl, Nat.zero_le _, by omega⟩
    · have hm : len ≤ m := by rw [hmm]; split <;> omega
      have each : ∀ i, i < len → ∃ q : α, P q ∧ ∀ k, k < s → w.cell? ((a.add (i * s)).add k) = (E q)[k]? := fun i hi => by
        obtain ⟨cs', k1, k2⟩ := hx i (by omega)
        obtain ⟨q, rfl, hb1⟩ := hel k2
        rw [hs] at k1
        obtain ⟨_, _, hc⟩ := World.cells?_some k1
        exact ⟨q, hb1, hc⟩
      have each' : ∀ i, ∃ q : α, i < len → P q ∧ ∀ k, k < s → w.cell? ((a.add (i * s)).add k) = (E q)[k]? := fun i => by
        by_cases hi : i < len
        · obtain ⟨q, hq⟩ := each i hi
          exact ⟨q, fun _ => hq⟩
        · exact ⟨z, fun h => absurd h hi⟩
      obtain ⟨f, hf'⟩ := Classical.axiomOfChoice each'
      obtain ⟨b, o, x⟩ := a
      have h2 : (E (f 0))[0]? = some ((E (f 0))[0]'(by rw [hE]; exact s0)) := List.getElem?_eq_getElem _
      have hx0 : x = none := by
        have h1 := (hf' 0 (by omega)).2 0 s0
        rw [h2] at h1
        have := World.cell?_spot h1
        simpa [Addr.add] using this
      subst hx0
      have hc : ∀ j, j < len → ∀ k, k < s → w.cell? ⟨b, o + j * s + k, none⟩ = (E (f j))[k]? := fun j hj k hk => by
        have := (hf' j hj).2 k hk
        rw [add_add, Go.WideShapes.add_plain] at this
        rw [Nat.add_assoc]; exact this
      refine ⟨_, len, cap, (List.range len).map f, rfl, by simp, ?_, .inr ⟨b, o, rfl, ?_, fun j q hq => ?_⟩, by omega, by omega⟩
      · intro q hq
        obtain ⟨i, hi, rfl⟩ := List.mem_map.1 hq
        exact (hf' i (List.mem_range.1 hi)).1
      · have h1 := hc 0 (by omega) 0 s0
        exact World.block_lt_of_cell? _ _ (h1.trans h2)
      · rw [List.getElem?_map] at hq
        by_cases hj : j < len
        · rw [List.getElem?_range hj] at hq
          cases hq
          intro k u hu
          rw [hc j hj k (by have := (List.getElem?_eq_some_iff.1 hu).1; rwa [hE] at this)]
          exact hu
        · rw [List.getElem?_eq_none (by simp; omega)] at hq
          cases hq
set_option maxRecDepth 100000 in
theorem openK (hv : Value.okWide Try.prog w r b0 22 v) (h : DataW.Trod enc Try.prog w base (fun _ => true) held 22 v d p) : ∃ (ad : Option Addr) (cap : Nat) (l : List Ac), v = .slice ad l.length cap ∧ AsW w ad l ∧ (∀ x ∈ l, AcFit x) ∧ l.length ≤ maxLen := by
  obtain ⟨ad, len, cap, l, rfl, h1, h2, h3, h4, h5⟩ := openG acs 46 zeroAc AcFit Try.underlying22 cells_G (by omega) acs_len (fun h => ac_of h) hv h
  subst h1
  exact ⟨ad, cap, l, rfl, ⟨h3⟩, h2, by omega⟩
set_option maxRecDepth 100000 in
theorem openN (hv : Value.okWide Try.prog w r b0 64 v) (h : DataW.Trod enc Try.prog w base (fun _ => true) held 64 v d p) : ∃ (ad : Option Addr) (cap : Nat) (l : List Int), v = .slice ad l.length cap ∧ NsW w ad l ∧ (∀ x ∈ l, 0 ≤ x ∧ x ≤ 65535) ∧ l.length ≤ maxLen := by
  obtain ⟨ad, len, cap, l, rfl, h1, h2, h3, h4, h5⟩ := openG ncs 1 0 (fun x => 0 ≤ x ∧ x ≤ 65535) Try.underlying64 cells16 (by omega) (fun _ => rfl) (fun h => n_of h) hv h
  subst h1
  exact ⟨ad, cap, l, rfl, ⟨h3⟩, h2, by omega⟩
end
set_option maxRecDepth 100000 in
/-- The readings of arguments stay where nothing that was there is written. -/
theorem all_stay {H : Type} {enc : TypeId × Value → H} {P : Program} (hl : laidOutB P = true) {W W' : World} (hb : Below W.heap.size W W') : ∀ (ts : List TypeId) (vs : List Value) (ds : List (DataW H)) (p : List MemPlace), (ts.all fun t => P.readableRec t && decide (t < P.types.size)) = true → DataW.TrodAll enc P W 0 (fun _ => true) true ts vs ds p → DataW.TrodAll enc P W' 0 (fun b => decide (b < W.heap.size)) true ts vs ds p
  | [], vs, ds, p, _, h => by
    obtain ⟨rfl, rfl, rfl⟩ := trodAll_nil h
    exact trodAll_mk0
  | t :: ts, vs, ds, p, hr, h => by
    obtain ⟨v0, vs0, d0, ds0, p0, q0, rfl, rfl, rfl, h0, r0⟩ := trodAll_cons h
    simp only [List.all_cons, Bool.and_eq_true, decide_eq_true_eq] at hr
    refine trodAll_cons_mk (Below.trod hl hr.1.1 hr.1.2 h0 hb ?_) (all_stay hl hb ts vs0 ds0 q0 (by simpa using hr.2) r0)
    obtain ⟨m, hm⟩ := h0
    exact DataW.trod_lt m _ _ _ hm
end Go.Proofs.Ytbjclphgabpgoaa
