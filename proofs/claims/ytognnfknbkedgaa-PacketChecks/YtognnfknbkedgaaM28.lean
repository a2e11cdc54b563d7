/-
  The law PacketChecks returns true for every two Tlvs: Check answers as the document's, and so does Same. No condition.
-/
import Derived.Test.YtognnfknbkedgaaM27
import Derived.OpenShut
import Derived.ChangeOld
import Derived.Below
import Derived.SizedLaws
import Derived.Deep.SlicePairs
import Derived.Test.YtognnfknbkedgaaM05
import Derived.Test.YtognnfknbkedgaaM01
import Derived.Test.YtognnfknbkedgaaM03
import Derived.Test.YtognnfknbkedgaaM13
import Derived.Test.YtognnfknbkedgaaM24
import Derived.Test.YtognnfknbkedgaaM22
import Derived.Test.YtognnfknbkedgaaM23
namespace Go.Proofs.Ytognnfknbkedgaa
open Go.RowKit Go.ChangeShapes Go.WideShapes Go.ChangeAt Go.Deep
set_option maxRecDepth 100000
theorem own : ownKnob Try.prog.godebug = none := by kernel_rfl
theorem laid_out : laidOutB Try.prog = true := by kernel_rfl
/-- What a walk is told of a slice of integers that came in: it is nil; or it leads to a row of 'cap' cells, the numbers 'zs' (the first 'len' are its elements, the rest its spare room), each fitting its kind. -/
def IsRow (k : IntKind) (w : World) (a : Option Addr) (len cap : Nat) (zs : List Int) : Prop :=
  (a = none ∧ len = 0 ∧ cap = 0 ∧ zs = []) ∨
  ∃ x, a = some x ∧ len ≤ cap ∧ cap ≤ maxLen ∧ zs.length = cap ∧ (∀ i, i < zs.length → w.cell? (x.add i) = some (.int k (zs.getD i 0))) ∧ ∀ n ∈ zs, (Lit.int k n).wf = true

theorem IsRow.src {k : IntKind} {w : World} {a : Option Addr} {len cap : Nat} {zs : List Int} (h : IsRow k w a len cap zs) : Src w a len cap ((zs.take len).map (Value.int k)) ∧ (∀ n ∈ zs, (Lit.int k n).wf = true) ∧ len ≤ maxLen := by
  rcases h with ⟨rfl, rfl, rfl, rfl⟩ | ⟨x, rfl, h1, h2, h3, h4, h5⟩
  · exact ⟨Src.nil w, by simp, by unfold maxLen; omega⟩
  · refine ⟨⟨by simp; omega, (fun h => by cases h), fun ad had j u hu => ?_⟩, h5, Nat.le_trans h1 h2⟩
    cases had
    have hj : j < ((zs.take len).map (Value.int k)).length := (List.getElem?_eq_some_iff.1 hu).1
    simp at hj
    rw [h4 j (by omega)]
    rw [List.getElem?_map, List.getElem?_take_of_lt (by omega), List.getElem?_eq_getElem (by omega)] at hu
    simp at hu
    simp [List.getD, List.getElem?_eq_getElem (show j < zs.length by omega), hu]

theorem IsRow.le {k : IntKind} {w : World} {a : Option Addr} {len cap : Nat} {zs : List Int} (h : IsRow k w a len cap zs) : len ≤ cap := by
  rcases h with ⟨_, h1, h2, _⟩ | ⟨_, _, h1, _⟩
  · omega
  · exact h1

theorem IsRow.bytes {w : World} {a : Option Addr} {len cap : Nat} {zs : List Int} (h : IsRow .u8 w a len cap zs) : ∃ l, Src w a len cap (bcells l) := by
  obtain ⟨h1, h2, _⟩ := h.src
  refine ⟨(zs.take len).map fun z => UInt8.ofNat z.toNat, ?_⟩
  have e : bcells ((zs.take len).map fun z => UInt8.ofNat z.toNat) = (zs.take len).map (Value.int .u8) := by
    unfold bcells
    rw [List.map_map]
    refine List.map_congr_left fun z hz => ?_
    have hb := bounds_u8 (h2 z (List.mem_of_mem_take hz))
    simp
    omega
  rw [e]
  exact h1

section
variable {H : Type} {enc : TypeId × Value → H} {w : World} {base : Nat} {held : Bool} {r : Reach} {b0 : Nat} {v : Value} {d : DataW H} {p : List MemPlace}
end
section
variable {H : Type} {enc : TypeId × Value → H} {w : World} {base : Nat} {spare : Nat → Bool} {held : Bool}
theorem bytes_of (m : Nat) : ∀ (cs : List Value) (xs : List (DataW H × List MemPlace)), cs.length = xs.length → (∀ i, i < xs.length → DataW.trod enc Try.prog w base spare held m 5 ((cs.drop i).take 1) = xs[i]?) → ∃ l : List UInt8, cs = bcells l
  | [], _, _, _ => ⟨[], rfl⟩
  | c :: r, [], h, _ => by simp at h
  | c :: r, x :: ys, h, k => by
    obtain ⟨l, rfl⟩ := bytes_of m r ys (by simpa using h) (fun i hi => by have := k (i + 1) (by simp; omega); simpa using this)
    obtain ⟨n, e1, _, hw⟩ := DataW.trod_int Try.underlying5 (show DataW.trod enc Try.prog w base spare held m 5 [c] = some x by simpa using k 0 (by simp))
    obtain ⟨h0, h1⟩ := bounds_u8 hw
    simp only [List.cons.injEq, and_true] at e1
    refine ⟨UInt8.ofNat n.toNat :: l, ?_⟩
    rw [e1]
    show _ = Value.int .u8 ((UInt8.ofNat n.toNat).toNat : Int) :: bcells l
    have : (UInt8.ofNat n.toNat).toNat = n.toNat := by simp; omega
    rw [this]
    congr 2
    omega
theorem cellsA : Try.prog.cellsOf 26 = 16 := by kernel_rfl
theorem cells_u8 : Try.prog.cellsOf 5 = 1 := by kernel_rfl
theorem ad_of {fuel : Nat} {cs : List Value} {x : DataW H × List MemPlace} (h : DataW.trod enc Try.prog w base spare held fuel 26 cs = some x) : ∃ a : Ad, cs = acells a := by
  obtain ⟨xs, m, _, _, hl, hn, hel⟩ := DataW.trod_array Try.underlying26 h
  rw [cells_u8] at hel
  obtain ⟨l, rfl⟩ := bytes_of m cs xs (by rw [hl, hn, cellsA]) (fun i hi => by have := hel i (by omega); rwa [Nat.mul_one] at this)
  exact ⟨⟨l, by rw [bcells_length, cellsA] at hl; exact hl⟩, rfl⟩
variable {r : Reach} {b0 : Nat} {v : Value} {d : DataW H} {p : List MemPlace}
end
/-- The readings of arguments stay where nothing that was there is written. -/
theorem all_stay {H : Type} {enc : TypeId × Value → H} {P : Program} (hl : laidOutB P = true) {W W' : World} (hb : Below W.heap.size W W') : ∀ (ts : List TypeId) (vs : List Value) (ds : List (DataW H)) (p : List MemPlace), (ts.all fun t => P.readableRec t && decide (t < P.types.size)) = true → DataW.TrodAll enc P W 0 (fun _ => true) true ts vs ds p → DataW.TrodAll enc P W' 0 (fun b => decide (b < W.heap.size)) true ts vs ds p
  | [], vs, ds, p, _, h => by
    obtain ⟨rfl, rfl, rfl⟩ := trodAll_nil h
    exact trodAll_mk0
  | t :: ts, vs, ds, p, hr, h => by
    obtain ⟨v0, vs0, d0, ds0, p0, q0, rfl, rfl, rfl, h0, r0⟩ := trodAll_cons h
    simp only [List.all_cons, Bool.and_eq_true, decide_eq_true_eq] at hr
    refine trodAll_cons_mk (Below.trod hl hr.1.1 hr.1.2 h0 hb ?_) (all_stay hl hb ts vs0 ds0 q0 (by simpa using hr.2) r0)
    obtain ⟨m, hm⟩ := h0
    exact DataW.trod_lt m _ _ _ hm
end Go.Proofs.Ytognnfknbkedgaa

namespace Go.Proofs.Ytognnfknbkedgaa
open Go.RowKit
set_option linter.unusedSimpArgs false
set_option maxRecDepth 20000

/-- The numbers of a Tlv fit their kinds. -/
structure TFit (k : TK) : Prop where
  ty : k.ty < 256
  nonce : k.nonce < 65536
  intv : k.intv < 65536
  seq : k.seq < 65536
  rx : k.rx < 65536
  met : k.met < 65536
  hops : k.hops < 256
def hw (n : Nat) : List UInt8 := be16 (UInt16.ofNat n)
abbrev PK := UInt8 × List UInt8
/-- What a packet has told once for many. -/
structure TS where
  r : Id8
  h4 : Ad
  k4 : Bool
  h6 : Ad
  k6 : Bool
/-- A packet under way. -/
structure DS where
  o : TS
  room : Int
  ps : List PK
end Go.Proofs.Ytognnfknbkedgaa

namespace Go.Proofs.Ytognnfknbkedgaa
open Go.RowKit
set_option linter.unusedSimpArgs false
set_option maxRecDepth 20000

/-- One piece in a row of its own. -/
theorem Rws.one {w : World} {g : Nat} {p : Pc} (hr : Row w g 72 (rc p)) (hs : Src w p.a p.n p.c (bcells p.l)) : Rws w (some ⟨g, 0, none⟩) 1 [p] :=
  ⟨rfl, fun _ => ⟨g, 0, rfl, hr.lt, fun j q hq => by
    cases j with
    | zero => simp at hq; subst hq; exact hr.range
    | succ j => simp at hq⟩, fun q hq => by simp at hq; subst hq; exact hs⟩
theorem Laid.nil (w : World) : Laid w [] (.returned (.slice none 0 0)) w := ⟨none, 0, rfl, World.ownsRow_nil _ _ _ _, Below.refl _ _⟩
end Go.Proofs.Ytognnfknbkedgaa

namespace Go.Proofs.Ytognnfknbkedgaa
open Go.RowKit
set_option linter.unusedSimpArgs false
set_option maxRecDepth 20000

/-- The bytes of a block from a place on. -/
theorem Row.part {w : World} {g : Nat} {t : TypeId} {pre mid post : List Value} (hr : Row w g t (pre ++ (mid ++ post))) {o n : Nat} (c : Nat) (ho : pre.length = o) (hn : mid.length = n) : Src w (some ⟨g, o, none⟩) n c mid :=
  ⟨hn, (fun h => by cases h), fun ad had j u hu => by
    cases had
    rw [Addr.add_mid, hr.cell, List.getElem?_append_right (by omega), ho, Nat.add_sub_cancel_left, List.getElem?_append_left (List.getElem?_eq_some_iff.1 hu).1]
    exact hu⟩
end Go.Proofs.Ytognnfknbkedgaa

namespace Go.Proofs.Ytognnfknbkedgaa
open Go.RowKit
set_option linter.unusedSimpArgs false
set_option maxRecDepth 20000

section
variable {ops : Array Oper} {op : Oper} {a : Act} {w : World} {K : Act → World → Prop} {Q : Exit → Act → World → Prop} {E : Prop}
end
def n8 (ns : List Nat) : List Value := ns.map fun (n : Nat) => Value.int .u8 (n : Int)
/-! ### Where and source -/
end Go.Proofs.Ytognnfknbkedgaa

namespace Go.Proofs.Ytognnfknbkedgaa
open Go.RowKit
set_option linter.unusedSimpArgs false
set_option maxRecDepth 20000

def LaidN (w : World) (l : List UInt8) (e : Ending) (w' : World) : Prop := ∃ a n c, e = .returned (.slice a n c) ∧ w'.ownsRow w.heap.size 5 1 (.slice a n c) n (bcells l) ∧ Below w.heap.size w w'
theorem Laid.n {w w' : World} {l : List UInt8} {e : Ending} (h : Laid w l e w') : LaidN w l e w' := by
  obtain ⟨a, c, h1, h2, h3⟩ := h
  exact ⟨a, _, c, h1, h2, h3⟩
theorem LaidN.l {w w' : World} {l : List UInt8} {e : Ending} (h : LaidN w l e w') : Laid w l e w' := by
  obtain ⟨a, n, c, rfl, h2, h3⟩ := h
  obtain rfl : n = l.length := (own_srcP h2).blen
  exact ⟨a, c, rfl, h2, h3⟩
end Go.Proofs.Ytognnfknbkedgaa

namespace Go.Proofs.Ytognnfknbkedgaa
open Go.RowKit
set_option linter.unusedSimpArgs false
set_option maxRecDepth 20000

/-- A Tlv that may be: what its piece needs. -/
structure TOk (k : TK) : Prop where
  fit : TFit k
  nam : namB k.ty = true
  st : k.st.length ≤ 2
  d0 : 0 ≤ k.pr.d.n
  d1 : k.pr.d.n ≤ 128
  s0 : 0 ≤ k.pr.s.n
  s1 : k.pr.s.n ≤ 128
/-- A piece in memory of the call's own. -/
def Pcd (w : World) (p : PK) (e : Ending) (w' : World) : Prop := ∃ a n c, e = .returned (.agg #[.int .u8 (p.1.toNat : Int), .slice a n c]) ∧ w'.ownsRow w.heap.size 5 1 (.slice a n c) n (bcells p.2) ∧ Below w.heap.size w w'
section
variable {ops : Array Oper} {op : Oper} {a : Act} {w : World} {K : Act → World → Prop} {Q : Exit → Act → World → Prop} {E : Prop}
end
/-- Behind the store of a piece: it, its body, and what was below. -/
theorem Pcd.of {w W W' : World} {l : List UInt8} {a : Option Addr} {n c g : Nat} {cs : List Value} (hB : Below w.heap.size w W) (hg : W.grownBy W' (some g)) (hr : Row W g 72 cs) (hge : w.heap.size ≤ g) (ho : W.ownsRow w.heap.size 5 1 (.slice a n c) n (bcells l)) : w.heap.size ≤ g ∧ W'.ownsRow w.heap.size 5 1 (.slice a n c) n (bcells l) ∧ Below w.heap.size w W' :=
  ⟨hge, own_keep ho hg (.inl fun e => own_ne ho hr ne51 e.symm), hB.grown hg hB.size (fun k hk => by cases hk; exact hge)⟩
end Go.Proofs.Ytognnfknbkedgaa

namespace Go.Proofs.Ytognnfknbkedgaa
open Go.RowKit
set_option linter.unusedSimpArgs false
set_option maxRecDepth 20000

def hopc (a : Ad) (b : Bool) : List Value := acells a ++ [.bool b]
def ocells (o : TS) : List Value := icells o.r ++ (hopc o.h4 o.k4 ++ hopc o.h6 o.k6)
def dcells (o : TS) (room : Int) (a : Option Addr) (n c : Nat) : List Value := ocells o ++ [.int .i64 room, .slice a n c]
section
variable {ops : Array Oper} {rest : List Oper} {op : Oper} {a : Act} {w : World} {Q : Exit → Act → World → Prop} {K : Act → World → Prop} {E : Prop} {S : World → Prop}
end
end Go.Proofs.Ytognnfknbkedgaa

namespace Go.Proofs.Ytognnfknbkedgaa
open Go.RowKit
set_option linter.unusedSimpArgs false
set_option maxRecDepth 20000

/-- What holds while with goes on. -/
structure Wi (w W : World) (t : Tl) (o : TS) (g : Nat) (z : TS) (v : Value) (ps : List Pc) : Prop where
  bel : Below w.heap.size w W
  rO : Row W w.heap.size 81 (ocells o)
  rT : Row W (w.heap.size + 1) 33 (tcells t)
  rZ : Row W g 81 (ocells z)
  hz : w.heap.size + 1 < g
  own : W.ownsRow w.heap.size 72 2 v ps.length (rcs ps)
  bods : Bods w.heap.size W ps
section
variable {w W W' : World} {t : Tl} {o z : TS} {g : Nat} {v : Value} {ps : List Pc}
theorem Wi.below (h : Wi w W t o g z v ps) (hb : Below W.heap.size W W') : Wi w W' t o g z v ps :=
  ⟨bt h.bel hb, h.rO.below hb h.rO.lt, h.rT.below hb h.rT.lt, h.rZ.below hb h.rZ.lt, h.hz, own_keep h.own (grownBy_below none hb) (.inr rfl), h.bods.below hb⟩
theorem Bods.told {B g' : Nat} {T : TypeId} {cs : List Value} (h : Bods B W ps) (hg : W.grownBy W' (some g')) (hr : Row W g' T cs) (hT : T ≠ 5) : Bods B W' ps := h.keep hg (fun p hp => .inl fun e => own_ne (h p hp) hr hT e.symm)
end
theorem Row.ne {W : World} {b b' : Nat} {U U' : TypeId} {ds ds' : List Value} (h : Row W b U ds) (h' : Row W b' U' ds') (hT : U ≠ U') : b ≠ b' := fun e => by
  subst e
  unfold Row at h h'
  rw [h] at h'
  cases h'
  exact hT rfl
section
variable {ops : Array Oper} {rest : List Oper} {op : Oper} {a : Act} {w : World} {K : Act → World → Prop} {Q : Exit → Act → World → Prop} {E : Prop}
end
end Go.Proofs.Ytognnfknbkedgaa

namespace Go.Proofs.Ytognnfknbkedgaa
open Go.RowKit
set_option linter.unusedSimpArgs false
set_option maxRecDepth 20000

/-- A packet under way in memory of the call's own, from B on. -/
structure Dr (B : Nat) (W : World) (P : Nat) (d : DS) (a : Option Addr) (n c : Nat) (ps : List Pc) : Prop where
  row : Row W P 83 (dcells d.o d.room a n c)
  ge : B ≤ P
  own : W.ownsRow B 72 2 (.slice a n c) n (rcs ps)
  bods : Bods B W ps
  keys : keys ps = d.ps
theorem Dr.below {B : Nat} {W W' : World} {P : Nat} {d : DS} {a : Option Addr} {n c : Nat} {ps : List Pc} (h : Dr B W P d a n c ps) (hb : Below W.heap.size W W') : Dr B W' P d a n c ps :=
  ⟨h.row.below hb h.row.lt, h.ge, own_keep h.own (grownBy_below none hb) (.inr rfl), h.bods.below hb, h.keys⟩
theorem Dr.le {B B' : Nat} {W : World} {P : Nat} {d : DS} {a : Option Addr} {n c : Nat} {ps : List Pc} (h : Dr B W P d a n c ps) (hb : B' ≤ B) : Dr B' W P d a n c ps :=
  ⟨h.row, Nat.le_trans hb h.ge, own_le h.own hb, fun p hp => own_le (h.bods p hp) hb, h.keys⟩
/-! ### take -/
section
variable {ops : Array Oper} {rest : List Oper} {op : Oper} {a : Act} {w : World} {Q : Exit → Act → World → Prop}
end
/-- What take turns: the packet's own block, and the row of its pieces. -/
def Fr (w w' : World) (P : Nat) (o : Option Nat) : Prop := ∃ w1 w2 w3, Below w.heap.size w w1 ∧ w1.grownBy w2 (some P) ∧ w2.grownBy w3 o ∧ w3.grownBy w' (some P)
theorem Fr.row {w w' : World} {B P : Nat} {d : DS} {a : Option Addr} {n c : Nat} {ps : List Pc} (hd : Dr B w P d a n c ps) (h : Fr w w' P (Value.slice a n c).ownBlock) {g : Nat} {T : TypeId} {cs : List Value} (hr : Row w g T cs) (h1 : T ≠ 83) (h2 : T ≠ 72) : Row w' g T cs := by
  obtain ⟨w1, w2, w3, b1, g1, g2, g3⟩ := h
  have d1 := hd.below b1
  have o2 := own_keep d1.own g1 (.inl fun e => own_ne d1.own d1.row (by decide) e.symm)
  have hg := hr.ne hd.row h1
  have r1 := hr.below b1 hr.lt
  have r2 := r1.grown g1 (fun e => hg (Option.some.inj e))
  exact (r2.grown g2 (own_ne o2 r2 h2)).grown g3 (fun e => hg (Option.some.inj e))
theorem Fr.own {w w' : World} {B P : Nat} {d : DS} {a : Option Addr} {n c : Nat} {ps : List Pc} (hd : Dr B w P d a n c ps) (h : Fr w w' P (Value.slice a n c).ownBlock) {B' m s : Nat} {T : TypeId} {v : Value} {xs : List Value} (ho : w.ownsRow B' T s v m xs) (h1 : T ≠ 83) (h2 : T ≠ 72) : w'.ownsRow B' T s v m xs := by
  obtain ⟨w1, w2, w3, b1, g1, g2, g3⟩ := h
  have d1 := hd.below b1
  have o2 := own_keep d1.own g1 (.inl fun e => own_ne d1.own d1.row (by decide) e.symm)
  have k1 := own_keep ho (grownBy_below none b1) (.inr rfl)
  have hne : v.ownBlock ≠ some P := fun e => own_ne k1 d1.row (fun e => h1 e.symm) e.symm
  have k2 := own_keep k1 g1 (.inl hne)
  have k3 := own_keep k2 g2 (own_apart k2 o2 h2)
  exact own_keep k3 g3 (.inl hne)
theorem Fr.bel {w0 w w' : World} {P : Nat} {d : DS} {a : Option Addr} {n c : Nat} {ps : List Pc} (hd : Dr w0.heap.size w P d a n c ps) (h : Fr w w' P (Value.slice a n c).ownBlock) (hb : Below w0.heap.size w0 w) : Below w0.heap.size w0 w' := by
  obtain ⟨w1, w2, w3, b1, g1, g2, g3⟩ := h
  have k1 := bt hb b1
  have k2 := k1.grown g1 k1.size (fun k hk => by cases hk; exact hd.ge)
  have k3 := k2.grown g2 k2.size (fun k hk => (hd.own.lt k hk).1)
  exact k3.grown g3 k3.size (fun k hk => by cases hk; exact hd.ge)
end Go.Proofs.Ytognnfknbkedgaa

namespace Go.Proofs.Ytognnfknbkedgaa
open Go.RowKit
set_option linter.unusedSimpArgs false
set_option maxRecDepth 20000

/-! ### check and Size -/
theorem chkQ_fit {q : Pr} (h : chkQ q = 0) : 0 ≤ q.d.n ∧ q.d.n ≤ 128 ∧ 0 ≤ q.s.n ∧ q.s.n ≤ 128 := by
  unfold chkQ orI at h
  have h1 := chk_or q.d
  have h2 := chk_or q.s
  rcases h1 with ⟨e1, a1, a2, _⟩ | e1
  · rcases h2 with ⟨e2, b1, b2, _⟩ | e2
    · exact ⟨a1, a2, b1, b2⟩
    · rw [e1, e2] at h; simp at h
  · rw [e1] at h; simp at h
theorem chkT_zero {k : TK} (h : chkT k = 0) : namB k.ty = true ∧ unK k = { zeroK with ty := k.ty } ∧ fitB k = true ∧ chkQ k.pr = 0 := by
  unfold chkT at h
  split at h
  · rename_i h1
    simp only [Bool.and_eq_true] at h1
    exact ⟨h1.1, (sameB_iff _ _).1 h1.2.1, h1.2.2, h⟩
  · cases h
theorem TOk.of {k : TK} (hf : TFit k) (h : chkT k = 0) : TOk k := by
  obtain ⟨h1, h2, h3, h4⟩ := chkT_zero h
  obtain ⟨q1, q2, q3, q4⟩ := chkQ_fit h4
  refine ⟨hf, h1, ?_, q1, q2, q3, q4⟩
  unfold fitB at h3
  have hst := congrArg TK.st h2
  unfold unK at hst
  have hz : zeroK.st = [] := rfl
  rcases namB_cases h1 with e | e | e | e | e | e | e
  all_goals simp only [e] at h3 hst
  all_goals simp at h3 hst
  all_goals first | omega | (rw [hst, hz]; simp; done) | (rcases h3.1 with q | q; rw [q]; simp; omega)
end Go.Proofs.Ytognnfknbkedgaa

namespace Go.Proofs.Ytognnfknbkedgaa
open Go.RowKit
set_option linter.unusedSimpArgs false
set_option maxRecDepth 20000

section
variable {ops : Array Oper} {rest : List Oper} {op : Oper} {a : Act} {w : World} {Q : Exit → Act → World → Prop} {K : Act → World → Prop} {E : Prop}
end
/-- Packets in memory of the call's own. -/
structure Ac (B : Nat) (W : World) (v : Value) (qs : List Part) : Prop where
  own : W.ownsRow B 40 1 v qs.length (svcells qs)
  bods : ∀ q ∈ qs, W.ownsRow B 5 1 (.slice q.a q.n q.c) q.n (bcells q.l)
theorem Ac.nil (B : Nat) (W : World) : Ac B W (.slice none 0 0) [] := ⟨World.ownsRow_nil _ _ _ _, fun q hq => by cases hq⟩
theorem Ac.below {B : Nat} {W W' : World} {v : Value} {qs : List Part} (h : Ac B W v qs) (hb : Below W.heap.size W W') : Ac B W' v qs :=
  ⟨own_keep h.own (grownBy_below none hb) (.inr rfl), fun q hq => own_keep (h.bods q hq) (grownBy_below none hb) (.inr rfl)⟩
/-- What holds in a round. -/
structure Lp (w W : World) (src : Ad) (P : Nat) (d : DS) (a : Option Addr) (n c : Nat) (ps : List Pc) (v : Value) (qs : List Part) : Prop where
  bel : Below w.heap.size w W
  rS : Row W w.heap.size 26 (acells src)
  dr : Dr w.heap.size W P d a n c ps
  ac : Ac w.heap.size W v qs
section
variable {w W W' : World} {src : Ad} {P : Nat} {d : DS} {a : Option Addr} {n c : Nat} {ps : List Pc} {v : Value} {qs : List Part}
theorem Lp.below (h : Lp w W src P d a n c ps v qs) (hb : Below W.heap.size W W') : Lp w W' src P d a n c ps v qs := ⟨bt h.bel hb, h.rS.below hb h.rS.lt, h.dr.below hb, h.ac.below hb⟩
end
/-- What Pack answers. -/
def Packd (w : World) (r : List (List UInt8) × Int) (e : Ending) (w' : World) : Prop := ∃ a n c qs, e = .returned (.tuple #[.slice a n c, .int .i64 r.2]) ∧ qs.map Part.l = r.1 ∧ n = qs.length ∧ Ac w.heap.size w' (.slice a n c) qs ∧ Below w.heap.size w w'
theorem Packd.no {w w' : World} {z : Int} {r : List (List UInt8) × Int} (hr : r = ([], z)) (hb : Below w.heap.size w w') : Packd w r (.returned (.tuple #[.slice none 0 0, .int .i64 z])) w'   := ⟨Option.none, 0, 0, [], by rw [hr], by rw [hr]; rfl, rfl, Ac.nil _ _, hb⟩
end Go.Proofs.Ytognnfknbkedgaa

namespace Go.Proofs.Ytognnfknbkedgaa
open Go.RowKit
set_option linter.unusedSimpArgs false
set_option maxRecDepth 20000

theorem Lp.alloc {w W : World} {src : Ad} {P : Nat} {d : DS} {a : Option Addr} {n c : Nat} {ps : List Pc} {v : Value} {qs : List Part} (h : Lp w W src P d a n c ps v qs) (o : Obj) : Lp w (W.alloc o) src P d a n c ps v qs := h.below (ba _ _)
end Go.Proofs.Ytognnfknbkedgaa

namespace Go.Proofs.Ytognnfknbkedgaa
open Go.RowKit Go.ChangeShapes Go.WideShapes Go.ChangeAt Go.Deep
set_option maxRecDepth 100000
section
variable {H : Type} {enc : TypeId × Value → H} {w : World} {base : Nat} {held : Bool}
theorem cellsP : Try.prog.cellsOf 28 = 17 := by kernel_rfl
theorem cellsQ : Try.prog.cellsOf 30 = 34 := by kernel_rfl
theorem cells_int : Try.prog.cellsOf 3 = 1 := by kernel_rfl
theorem cells_u16 : Try.prog.cellsOf 22 = 1 := by kernel_rfl
theorem cells_bool : Try.prog.cellsOf 4 = 1 := by kernel_rfl
theorem cells_I : Try.prog.cellsOf 24 = 8 := by kernel_rfl
theorem cells_L : Try.prog.cellsOf 31 = 1 := by kernel_rfl
theorem cells_T : Try.prog.cellsOf 33 = 68 := by kernel_rfl
theorem cells_u32 : Try.prog.cellsOf 63 = 1 := by kernel_rfl
theorem pf_of {fuel : Nat} {cs : List Value} {x : DataW H × List MemPlace} (h : DataW.trod enc Try.prog w base (fun _ => true) held fuel 28 cs = some x) : ∃ p : Pf, cs = pcells p := by
  obtain ⟨y0, y1, n, _, hl, h0, h1⟩ := trod_struct2 Try.underlying28 h
  dsimp only at h0 h1
  rw [cellsA] at h0
  rw [cells_int] at h1
  rw [cellsP] at hl
  obtain ⟨a, ha⟩ := ad_of h0
  obtain ⟨k, e1, _, hw⟩ := DataW.trod_int Try.underlying3 h1
  refine ⟨⟨a, k⟩, ?_⟩
  rw [pcells, ← ha, ← e1, List.drop_zero]
  have : (cs.drop 16).take 1 = cs.drop 16 := List.take_of_length_le (by simp; omega)
  rw [this, List.take_append_drop]
theorem pr_of {fuel : Nat} {cs : List Value} {x : DataW H × List MemPlace} (h : DataW.trod enc Try.prog w base (fun _ => true) held fuel 30 cs = some x) : ∃ q : Pr, cs = qcells q := by
  obtain ⟨y0, y1, n, _, hl, h0, h1⟩ := trod_struct2 Try.underlying30 h
  dsimp only at h0 h1
  rw [cellsP] at h0 h1
  rw [cellsQ] at hl
  obtain ⟨d, hd⟩ := pf_of h0
  obtain ⟨s, hs⟩ := pf_of h1
  refine ⟨⟨d, s⟩, ?_⟩
  rw [qcells, ← hd, ← hs, List.drop_zero]
  have : (cs.drop 17).take 17 = cs.drop 17 := List.take_of_length_le (by simp; omega)
  rw [this, List.take_append_drop]
theorem id_of {fuel : Nat} {cs : List Value} {x : DataW H × List MemPlace} (h : DataW.trod enc Try.prog w base (fun _ => true) held fuel 24 cs = some x) : ∃ a : Id8, cs = icells a := by
  obtain ⟨xs, m, _, _, hl, hn, hel⟩ := DataW.trod_array Try.underlying24 h
  rw [cells_u8] at hel
  obtain ⟨l, rfl⟩ := bytes_of m cs xs (by rw [hl, hn, cells_I]) (fun i hi => by have := hel i (by omega); rwa [Nat.mul_one] at this)
  exact ⟨⟨l, by rw [bcells_length, cells_I] at hl; exact hl⟩, rfl⟩
theorem st_of {fuel : Nat} {cs : List Value} {x : DataW H × List MemPlace} (h : DataW.trod enc Try.prog w base (fun _ => true) held fuel 31 cs = some x) : ∃ a n c st, cs = [.slice a n c] ∧ Src w a n c (wcells st) := by
  rcases open_ints Try.underlying31 Try.underlying63 cells_u32 h with ⟨hcs, _⟩ | ⟨x, l, c, zs, hcs, _, hl, hm, hz, _, hcell, hwz⟩
  · exact ⟨none, 0, 0, [], hcs, Src.nil w⟩
  · have hr : IsRow .u32 w (some x) l c zs := .inr ⟨_, rfl, hl, hm, by simpa using hz, hcell, hwz⟩
    obtain ⟨h1, h2, _⟩ := hr.src
    refine ⟨some x, l, c, (zs.take l).map fun z => UInt32.ofNat z.toNat, hcs, ?_⟩
    have e : wcells ((zs.take l).map fun z => UInt32.ofNat z.toNat) = (zs.take l).map (Value.int .u32) := by
      unfold wcells
      rw [List.map_map]
      refine List.map_congr_left fun z hz => ?_
      have hb := bounds_u32 (h2 z (List.mem_of_mem_take hz))
      simp
      omega
    rw [e]
    exact h1
theorem drop_split (cs : List Value) (o n m : Nat) (h : o + n = m) : cs.drop o = (cs.drop o).take n ++ cs.drop m := by
  rw [← h, ← List.drop_drop, List.take_append_drop]
theorem nat_of16 {z : Int} (h : (Lit.int .u16 z).wf = true) : ∃ n : Nat, z = n ∧ n < 65536 := by
  obtain ⟨h0, h1⟩ := bounds_u16 h
  exact ⟨z.toNat, by omega, by omega⟩
theorem nat_of8 {z : Int} (h : (Lit.int .u8 z).wf = true) : ∃ n : Nat, z = n ∧ n < 256 := by
  obtain ⟨h0, h1⟩ := bounds_u8 h
  exact ⟨z.toNat, by omega, by omega⟩
theorem tl_of {fuel : Nat} {cs : List Value} {x : DataW H × List MemPlace} (h : DataW.trod enc Try.prog w base (fun _ => true) held fuel 33 cs = some x) : ∃ t : Tl, cs = tcells t ∧ TSrc w t ∧ TFit t.key := by
  obtain ⟨xs, n, _, _, hl, hlen, hf⟩ := DataW.trod_struct Try.underlying33 h
  rw [cells_T] at hl
  match xs, hlen with
  | [y0, y1, y2, y3, y4, y5, y6, y7, y8, y9, y10, y11, y12], _ =>
    have f0 : DataW.trod enc Try.prog w base (fun _ => true) held n 5 ((cs.drop 0).take (Try.prog.cellsOf 5)) = some y0 := hf 0 _ rfl
    have f1 : DataW.trod enc Try.prog w base (fun _ => true) held n 22 ((cs.drop 1).take (Try.prog.cellsOf 22)) = some y1 := hf 1 _ rfl
    have f2 : DataW.trod enc Try.prog w base (fun _ => true) held n 22 ((cs.drop 2).take (Try.prog.cellsOf 22)) = some y2 := hf 2 _ rfl
    have f3 : DataW.trod enc Try.prog w base (fun _ => true) held n 22 ((cs.drop 3).take (Try.prog.cellsOf 22)) = some y3 := hf 3 _ rfl
    have f4 : DataW.trod enc Try.prog w base (fun _ => true) held n 22 ((cs.drop 4).take (Try.prog.cellsOf 22)) = some y4 := hf 4 _ rfl
    have f5 : DataW.trod enc Try.prog w base (fun _ => true) held n 22 ((cs.drop 5).take (Try.prog.cellsOf 22)) = some y5 := hf 5 _ rfl
    have f6 : DataW.trod enc Try.prog w base (fun _ => true) held n 5 ((cs.drop 6).take (Try.prog.cellsOf 5)) = some y6 := hf 6 _ rfl
    have f7 : DataW.trod enc Try.prog w base (fun _ => true) held n 4 ((cs.drop 7).take (Try.prog.cellsOf 4)) = some y7 := hf 7 _ rfl
    have f8 : DataW.trod enc Try.prog w base (fun _ => true) held n 4 ((cs.drop 8).take (Try.prog.cellsOf 4)) = some y8 := hf 8 _ rfl
    have f9 : DataW.trod enc Try.prog w base (fun _ => true) held n 24 ((cs.drop 9).take (Try.prog.cellsOf 24)) = some y9 := hf 9 _ rfl
    have f10 : DataW.trod enc Try.prog w base (fun _ => true) held n 26 ((cs.drop 17).take (Try.prog.cellsOf 26)) = some y10 := hf 10 _ rfl
    have f11 : DataW.trod enc Try.prog w base (fun _ => true) held n 30 ((cs.drop 33).take (Try.prog.cellsOf 30)) = some y11 := hf 11 _ rfl
    have f12 : DataW.trod enc Try.prog w base (fun _ => true) held n 31 ((cs.drop 67).take (Try.prog.cellsOf 31)) = some y12 := hf 12 _ rfl
    rw [cells_u8] at f0 f6
    rw [cells_u16] at f1 f2 f3 f4 f5
    rw [cells_bool] at f7 f8
    rw [cells_I] at f9
    rw [cellsA] at f10
    rw [cellsQ] at f11
    rw [cells_L] at f12
    obtain ⟨z0, e0, _, w0⟩ := DataW.trod_int Try.underlying5 f0
    obtain ⟨z1, e1, _, w1⟩ := DataW.trod_int Try.underlying22 f1
    obtain ⟨z2, e2, _, w2⟩ := DataW.trod_int Try.underlying22 f2
    obtain ⟨z3, e3, _, w3⟩ := DataW.trod_int Try.underlying22 f3
    obtain ⟨z4, e4, _, w4⟩ := DataW.trod_int Try.underlying22 f4
    obtain ⟨z5, e5, _, w5⟩ := DataW.trod_int Try.underlying22 f5
    obtain ⟨z6, e6, _, w6⟩ := DataW.trod_int Try.underlying5 f6
    obtain ⟨b7, e7, _⟩ := DataW.trod_bool Try.underlying4 f7
    obtain ⟨b8, e8, _⟩ := DataW.trod_bool Try.underlying4 f8
    obtain ⟨i9, e9⟩ := id_of f9
    obtain ⟨a10, e10⟩ := ad_of f10
    obtain ⟨q11, e11⟩ := pr_of f11
    obtain ⟨sa, sn, sc, st, e12, hst⟩ := st_of f12
    obtain ⟨n0, rfl, k0⟩ := nat_of8 w0
    obtain ⟨n1, rfl, k1⟩ := nat_of16 w1
    obtain ⟨n2, rfl, k2⟩ := nat_of16 w2
    obtain ⟨n3, rfl, k3⟩ := nat_of16 w3
    obtain ⟨n4, rfl, k4⟩ := nat_of16 w4
    obtain ⟨n5, rfl, k5⟩ := nat_of16 w5
    obtain ⟨n6, rfl, k6⟩ := nat_of8 w6
    refine ⟨⟨n0, n1, n2, n3, n4, n5, n6, b7, b8, i9, a10, q11, sa, sn, sc, st⟩, ?_, hst, ⟨k0, k1, k2, k3, k4, k5, k6⟩⟩
    have g0 := drop_split cs 0 1 1 rfl
    have g1 := drop_split cs 1 1 2 rfl
    have g2 := drop_split cs 2 1 3 rfl
    have g3 := drop_split cs 3 1 4 rfl
    have g4 := drop_split cs 4 1 5 rfl
    have g5 := drop_split cs 5 1 6 rfl
    have g6 := drop_split cs 6 1 7 rfl
    have g7 := drop_split cs 7 1 8 rfl
    have g8 := drop_split cs 8 1 9 rfl
    have g9 := drop_split cs 9 8 17 rfl
    have g10 := drop_split cs 17 16 33 rfl
    have g11 := drop_split cs 33 34 67 rfl
    have g12 := drop_split cs 67 1 68 rfl
    have gl : cs.drop 68 = [] := List.drop_eq_nil_of_le (by omega)
    rw [gl, e12] at g12
    rw [g12, e11] at g11
    rw [g11, e10] at g10
    rw [g10, e9] at g9
    rw [g9, e8] at g8
    rw [g8, e7] at g7
    rw [g7, e6] at g6
    rw [g6, e5] at g5
    rw [g5, e4] at g4
    rw [g4, e3] at g3
    rw [g3, e2] at g2
    rw [g2, e1] at g1
    rw [g1, e0] at g0
    rw [List.drop_zero] at g0
    rw [g0]
    simp [tcells, tnum]
variable {r : Reach} {b0 : Nat} {v : Value} {d : DataW H} {p : List MemPlace}
theorem openT (hv : Value.okWide Try.prog w r b0 33 v) (h : DataW.Trod enc Try.prog w base (fun _ => true) held 33 v d p) : ∃ t : Tl, v = .agg (tcells t).toArray ∧ TSrc w t ∧ TFit t.key := by
  obtain ⟨cs, rfl, _⟩ := okWide_struct Try.underlying33 hv
  obtain ⟨fuel, hf⟩ := h
  obtain ⟨t, ht, h1, h2⟩ := tl_of hf
  exact ⟨t, by rw [← ht]; simp [Value.cells], h1, h2⟩
end
end Go.Proofs.Ytognnfknbkedgaa

namespace Go.Proofs.Ytognnfknbkedgaa
open Go.ChangeShapes Go.WideShapes Go.ChangeAt Go.RowKit
set_option maxRecDepth 20000
theorem bytes_u32 : Try.prog.bytesOf 63 = 4 := by kernel_rfl
theorem tl_short {H : Type} {enc : TypeId × Value → H} {w : World} {base : Nat} {held : Bool} {d : DataW H} {p : List MemPlace} {ts : List TypeId} {ds : List (DataW H)} (h : (DataW.weightsEach Try.prog ts ds).all (· ≤ reachBytes) = true) {j : Nat} (ht : ts[j]? = some 33) (hd : ds[j]? = some d)
    {t : Tl} (hx : DataW.Trod enc Try.prog w base (fun _ => true) held 33 (.agg (tcells t).toArray) d p) : t.sn ≤ 140737488355328 := by
  obtain ⟨fuel, hf⟩ := hx
  obtain ⟨xs, n, _, hxe, hl, hlen, hfs⟩ := DataW.trod_struct Try.underlying33 hf
  match xs, hlen with
  | [y0, y1, y2, y3, y4, y5, y6, y7, y8, y9, y10, y11, y12], _ =>
    have h12 := hfs 12 _ rfl
    have e0 : (Value.agg (tcells t).toArray).cells.toList = tcells t := by simp [Value.cells]
    have e12 : ((tcells t).drop 67).take 1 = [.slice t.sa t.sn t.sc] := by
      have : (tcells t).drop 67 = [.slice t.sa t.sn t.sc] := by
        unfold tcells
        rw [← List.append_assoc, ← List.append_assoc, ← List.append_assoc]
        exact List.drop_left' (by simp [tnum, icells_len, acells_len, qcells_len])
      rw [this]; rfl
    have hs : DataW.trod enc Try.prog w base (fun _ => true) held n 31 [.slice t.sa t.sn t.sc] = some y12 := by
      rw [← e12, ← e0, ← cells_L]
      exact h12
    have hde : d = .agg [y0.1, y1.1, y2.1, y3.1, y4.1, y5.1, y6.1, y7.1, y8.1, y9.1, y10.1, y11.1, y12.1] := by
      have := congrArg Prod.fst hxe
      simpa using this
    rcases open_ints Try.underlying31 Try.underlying63 cells_u32 hs with ⟨hcs, _⟩ | ⟨x, l, c, zs, hcs, _, hl2, hm, hz, hx2, hcell, hwz⟩
    · simp at hcs
      omega
    · simp at hcs
      obtain ⟨_, e1, e2⟩ := hcs
      have hz' : zs.length = c := by simpa using hz
      have hy : y12.1 = .slice (lits .u32 (zs.take l)) (lits .u32 (zs.drop l)) := (Prod.mk.inj hx2).1
      have hw : ((zs.take l).length + (zs.drop l).length) * 4 ∈ d.weights Try.prog 33 := by
        rw [hde]
        simp only [DataW.weights, Try.underlying33]
        refine DataW.weights_mem_each (j := 12) (t := 31) (d := y12.1) rfl rfl _ ?_
        rw [hy]
        simp [DataW.weights, Try.underlying31, bytes_u32, lits]
      have := List.all_eq_true.1 h _ (DataW.weights_mem_each ht hd _ hw)
      have h2 : reachBytes < 2 ^ 47 := reachBytes_lt
      simp at this
      omega
end Go.Proofs.Ytognnfknbkedgaa

namespace Go.Proofs.Ytognnfknbkedgaa.packetChecks
open Go.ChangeShapes Go.WideShapes Go.ChangeAt Go.RowKit
open Go.ChangeMaps (open_string)
set_option maxRecDepth 100000 in
theorem lifted (os : Os) (started : os.Started) (H : Type) (enc : TypeId × Value → H) :
    ReturnsInHanded {} Try.checked os 3 .any (Rows.packetChecksSpec.pre6 enc Try.prog Try.f3 Rows.packetChecksRow.domain false) (Rows.packetChecksSpec.post enc Try.prog Try.f3 false true false false) := by
  refine returnsInHanded_of_change_sized (C := Try.checked) own started (by kernel_rfl) Try.func3
    (ChangeSpec.witness6 (enc := enc) (C := Try.checked) false ⟨#[], #[.agg (tcells zeroT).toArray, .agg (tcells zeroT).toArray], []⟩ 8 (by kernel_rfl) (by kernel_rfl) (by kernel_rfl) (by kernel_rfl)) ?_
  intro W base args ds gs before hval0 hW hcnd hsz _
  have hval : ∀ (j : Nat) t v, Try.f3.params[j]? = some t → args[j]? = some v → Value.okWide Try.prog W .any base t v := hval0
  have hW' := hW
  obtain ⟨p, q, hA0, hV, rfl, hfz, hnd⟩ := hW
  have hA : DataW.TrodAll enc Try.prog W 0 (fun _ => true) true Try.f3.params.toList args.toList ds p := hA0
  have kA := hA
  rw [Try.params3] at hA hval
  obtain ⟨v0, vs0, d0, ds0, p0, q0, hargs, rfl, rfl, h0, r0⟩ := trodAll_cons hA
  obtain ⟨v1, vs1, d1, ds1, p1, q1, rfl, rfl, rfl, h1, r1⟩ := trodAll_cons r0
  obtain ⟨rfl, rfl, rfl⟩ := trodAll_nil r1
  obtain rfl : args = #[v0, v1] := by cases args; simp_all
  obtain ⟨rfl, rfl⟩ := trodVars_none hV
  obtain ⟨a0, rfl, s0, f0⟩ := openT (hval 0 33 v0 rfl rfl) h0
  obtain ⟨a1, rfl, s1, f1⟩ := openT (hval 1 33 v1 rfl rfl) h1
  have b0 := tl_short hsz (j := 0) rfl rfl h0
  have b1 := tl_short hsz (j := 1) rfl rfl h1
  clear hA0 hval0
  refine (checks_any a0 a1 W s0 s1 b0 b1).mono fun e W' ⟨he, bel⟩ => ?_
  subst he
  exact ⟨_, rfl, _, _, _, [], _, [], hW', trodAll_mk1 (shut_bool Try.underlying4 _), all_stay laid_out bel _ _ _ _ (by kernel_rfl) kA, rfl, bel.frame _, fun h => by cases h⟩
theorem over : Rows.packetChecksRow.holds Try.pinned (OpenSpec.ofChange Rows.packetChecksSpec) :=
  OpenClaim.holds_of_wide 3 Try.f3 rfl rfl rfl rfl rfl rfl rfl ⟨rfl, rfl, rfl, rfl, rfl⟩ rfl rfl rfl rfl rfl (by kernel_rfl) Try.func3 (by kernel_rfl)
    (of_decide_eq_true (by kernel_rfl)) (by unfold Func.isWrapper; first | (rw [if_pos (by decide +kernel)]; kernel_rfl) | (rw [if_neg (by decide +kernel)]; exact ⟨rfl, rfl⟩))
    (fun os started H enc _ => lifted os started H enc)
end Go.Proofs.Ytognnfknbkedgaa.packetChecks
namespace Go.Proofs.Ytognnfknbkedgaa
/-- The statement. -/
theorem packetChecks_holds : Rows.PacketChecksSaid := packetChecks.over
#print axioms packetChecks_holds
end Go.Proofs.Ytognnfknbkedgaa
