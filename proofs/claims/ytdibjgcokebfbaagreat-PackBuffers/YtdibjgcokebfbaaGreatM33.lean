/-
  Tlvs behind none, in a region that draws its order.
-/
import Derived.Test.YtdibjgcokebfbaaGreatM32
namespace Go.Proofs.YtdibjgcokebfbaaGreat
open Go.RowKit
set_option linter.unusedSimpArgs false
set_option maxRecDepth 20000
theorem own_tl0 {W : World} {g B : Nat} (h : Row W g 45 []) (hB : B ≤ g) : W.ownsRow B 45 68 (.slice (some ⟨g, 0, none⟩) 0 0) 0 (tcs []) :=
  ⟨rfl, .inr ⟨g, 0, #[], rfl, hB, h, Nat.le_refl _, by unfold maxLen; omega, rfl, rfl⟩⟩
theorem TlW.cells {w : World} {ad : Addr} {n : Nat} {ts : List Tl} (h : TlW w (some ad) n ts) : ∀ j u, (tcs ts)[j]? = some u → w.cell? (ad.add j) = some u := by
  intro j u hu
  have hlt := (List.getElem?_eq_some_iff.1 hu).1
  rw [tcs_len] at hlt
  have hj : j / 68 < ts.length := by omega
  obtain ⟨g, o, e, _, hr⟩ := h.at hj
  cases e
  have hk : j % 68 < 68 := Nat.mod_lt _ (by decide)
  have e2 := tcs_get ts (j / 68) ts[j / 68] (List.getElem?_eq_getElem hj) (j % 68) hk
  rw [show j / 68 * 68 + j % 68 = j by omega] at e2
  rw [e2] at hu
  have := hr (j % 68) u hu
  rw [Addr.add_mid, show o + j = o + j / 68 * 68 + j % 68 by omega]
  exact this
theorem TlW.ofOwn {w : World} {B : Nat} {a : Option Addr} {n c : Nat} {ts : List Tl} (h : w.ownsRow B 45 68 (.slice a n c) n (tcs ts)) (hl : ts.length = n) (hs : ∀ t ∈ ts, TSrc w t) : TlW w a n ts := by
  refine ⟨hl, fun hne => ?_, hs⟩
  rcases h.2 with ⟨_, h2⟩ | ⟨g, cap, cur, hv, _, hh, _, _, _, _⟩
  · exact absurd (List.eq_nil_of_length_eq_zero (hl.trans h2)) hne
  · cases hv
    refine ⟨g, 0, rfl, lt_of_block hh, fun j p hp k u hu => ?_⟩
    have hk : k < 68 := by have := (List.getElem?_eq_some_iff.1 hu).1; rwa [tcells_len] at this
    have := h.cells rfl (j * 68 + k) u (by rw [tcs_get ts j p hp k hk]; exact hu)
    rw [Addr.add_mid] at this
    rw [Nat.add_assoc]
    exact this
section
variable {ops : Array Oper} {op : Oper} {a : Act} {w : World} {Q : Exit → Act → World → Prop} {K : Act → World → Prop} {E : Prop}
end
end Go.Proofs.YtdibjgcokebfbaaGreat

namespace Go.Proofs.YtdibjgcokebfbaaGreat
open Go.RowKit
set_option linter.unusedSimpArgs false
set_option linter.unusedVariables false
set_option maxRecDepth 20000
/-- The cells of a Buffer. -/
def bfc (src : Ad) (mtu : Int) (v : Value) : List Value := acells src ++ [.int .i64 mtu, v]
theorem bfc_len (src : Ad) (mtu : Int) (v : Value) : (bfc src mtu v).length = 18 := by simp [bfc, acells_len]
theorem bfc16 (src : Ad) (mtu : Int) (v : Value) : (bfc src mtu v)[16]? = some (.int .i64 mtu) := by
  unfold bfc; rw [List.getElem?_append_right (by rw [acells_len]; omega), acells_len]; rfl
theorem bfc17 (src : Ad) (mtu : Int) (v : Value) : (bfc src mtu v)[17]? = some v := by
  unfold bfc; rw [List.getElem?_append_right (by rw [acells_len]; omega), acells_len]; rfl
theorem bfc_set (src : Ad) (mtu : Int) (v u : Value) : (bfc src mtu v).set 17 u = bfc src mtu u := by
  unfold bfc; rw [List.set_append_right _ _ (by rw [acells_len]; omega), acells_len]; rfl
theorem Row.bSrc {w : World} {g : Nat} {src : Ad} {mtu : Int} {v : Value} {t : TypeId} (h : Row w g t (bfc src mtu v)) : w.rangeAt g 0 (acells src) := fun j u hu => by
  refine h.range j u ?_
  unfold bfc
  rw [List.getElem?_append_left (List.getElem?_eq_some_iff.1 hu).1]
  exact hu
theorem bdBf (src : Ad) (mtu : Int) (w : World) : (Instr.build 98 #[(0, (Value.agg (acells src).toArray)), (1, .int .i64 mtu)]).run Tryz.prog w = .ok (.agg (bfc src mtu (.slice none 0 0)).toArray) w := by
  obtain ⟨l, hl⟩ := src
  match l, hl with
  | [a0, a1, a2, a3, a4, a5, a6, a7, a8, a9, a10, a11, a12, a13, a14, a15], _ => (show _ = _; kernel_rfl)
/-! ### The library's Clone -/
theorem infoW : (Tryz.prog.info? 100).map (fun i => (i.zero, i.size, i.bytes)) = some (some (.int .u32 0), 1, 4) := by kernel_rfl
theorem wcells_one (l : List UInt32) : ∀ u ∈ wcells l, u.oneCell' = true := by
  intro u hu
  simp [wcells] at hu
  obtain ⟨x, _, rfl⟩ := hu
  rfl
/-- Stamps of the call's own. -/
def Cloned (w : World) (n : Nat) (st : List UInt32) (e : Ending) (w' : World) : Prop := ∃ a c, e = .returned (.slice a n c) ∧ w'.ownsRow w.heap.size 100 1 (.slice a n c) n (wcells st) ∧ Below w.heap.size w w'
theorem clone32_any (sa : Option Addr) (sn sc : Nat) (st : List UInt32) (w : World) (hs : Src w sa sn sc (wcells st)) (hn : sn ≤ 100000) :
    Calls Tryz.prog 40 #[.slice sa sn sc] w (Cloned w sn st) := by
  have hq := fun w => Lib.run_eql_slice_nil (P := Tryz.prog) w 43 100 sa sn sc 0 0 Tryz.underlying43
  have HL : Hid (st.length = sn) := by have := hs.len; show st.length = sn; simpa [wcells] using this
  cases sa with
  | none =>
    go_enter Tryz.func40, Tryz.ntmps40
    go_wp2_with fail
    go_ret
    obtain ⟨rfl, rfl⟩ := hs.bare rfl
    obtain rfl : st = [] := List.eq_nil_of_length_eq_zero HL.out
    exact ⟨none, 0, rfl, World.ownsRow_nil _ _ _ _, Below.refl _ _⟩
  | some ad =>
    obtain ⟨i0, hi, hz0, hz1, hz2⟩ := info_parts infoW
    go_enter Tryz.func40, Tryz.ntmps40
    go_wp2_with (at_builtin; refine wpList_append_own _ rfl (.tmp 5) (.tmp 6) 43 rfl w.heap.size 100 i0 (.int .u32 0) 1 4 Tryz.underlying43 hi hz0 hz1 hz2 rfl (by decide) _ 0 [] rfl (World.ownsRow_made w #[] 0 (Nat.le_refl _) (by unfold maxLen; omega) rfl) ad sn sc (wcells st) rfl (by have := hs.len; simpa using this) ((hs.alloc _).cell ad rfl) (wcells_one st) (by unfold maxLen; omega) (by omega) (by simp) ?_; intro v' w1 hown hg _)
    go_ret
    obtain ⟨a', c', rfl⟩ := own_shape2 hown
    rw [Nat.zero_add] at *
    exact ⟨a', c', rfl, hown, ((Below.refl _ _).alloc (Nat.le_refl _) _).grown hg (by simp) (fun k hk => by cases hk; exact Nat.le_refl _)⟩
/-! ### New and Len -/
/-- What New answers: none and an error, or a Buffer of the call's own. -/
def Newd (w : World) (src : Ad) (mtu z : Int) (e : Ending) (w' : World) : Prop :=
  (z ≠ 0 ∧ e = .returned (.tuple #[.pointer none, .int .i64 z]) ∧ Below w.heap.size w w') ∨
  (z = 0 ∧ ∃ B, e = .returned (.tuple #[.pointer (some ⟨B, 0, none⟩), .int .i64 z]) ∧ w.heap.size ≤ B ∧ Row w' B 98 (bfc src mtu (.slice none 0 0)) ∧ Below w.heap.size w w')
theorem tlw_none (w : World) : TlW w none 0 [] := ⟨rfl, (fun h => absurd rfl h), fun _ h => by cases h⟩
theorem new7_any (src : Ad) (mtu : Int) (w : World) : Calls Tryz.prog 14 #[(Value.agg (acells src).toArray), .int .i64 mtu] w (Newd w src mtu (pakL src mtu []).2) := by
  obtain ⟨R, hR⟩ : ∃ R, pakL src mtu [] = R := ⟨_, rfl⟩
  have HP : Hid (∀ W, Calls Tryz.prog 7 #[(Value.agg (acells src).toArray), .int .i64 mtu, .slice none 0 0] W (Packd W R)) := fun W => by
    rw [← hR]
    exact pack_any src mtu none 0 0 [] W (tlw_none W) (fun _ h => by cases h) (by decide)
  rw [hR]
  clear hR
  obtain ⟨pl, z⟩ := R
  have RS := Row.new w 23 (acells src)
  have B0 := ba w (.cells (acells src).toArray 23)
  by_cases hz : z = 0
  · subst hz
    go_enter Tryz.func14, Tryz.ntmps14
    go_wp2_with (first
      | (have kk := RS; refine ldA (.tmp 2) (by rfl) rfl w.heap.size 0 src rfl RS.range ?_)
      | (go_at_call 7; refine (HP.out _).mono ?_; rintro e w1 ⟨pa, pn, pc, qs, rfl, _, _, _, b1⟩; have R1 := RS.below b1 RS.lt; clear RS; have BB := bt B0 b1)
      | (have kk := R1; refine ldA (.tmp 2) (by rfl) rfl w.heap.size 0 src rfl R1.range ?_)
      | ((with_reducible refine bdG (T := 98) (v := .agg (bfc src mtu (.slice none 0 0)).toArray) [(0, .tmp 17), (1, .tmp 18)] ?_ ?_ ?_ ?_); (focus rfl); (focus rfl); (focus exact bdBf src mtu _)))
    have RB := Row.new w1 98 (bfc src mtu (.slice none 0 0))
    go_ret2
    exact .inr ⟨rfl, _, rfl, BB.size, RB, BB.alloc BB.size _⟩
  · have hz' : (z == 0) = false := by simpa using hz
    have HZ : Hid (z ≠ 0) := hz
    clear hz
    go_enter Tryz.func14, Tryz.ntmps14
    go_wp2_with (first
      | (have kk := RS; refine ldA (.tmp 2) (by rfl) rfl w.heap.size 0 src rfl RS.range ?_)
      | (go_at_call 7; refine (HP.out _).mono ?_; rintro e w1 ⟨pa, pn, pc, qs, rfl, _, _, _, b1⟩; clear RS; have BB := bt B0 b1))
    go_ret2
    exact .inl ⟨HZ.out, rfl, BB⟩
/-- A Buffer that holds ts in memory of its own, from block n on. -/
structure BufAt (w : World) (n B : Nat) (src : Ad) (mtu : Int) (v : Value) (ts : List Tl) : Prop where
  ge : n ≤ B
  row : Row w B 98 (bfc src mtu v)
  own : w.ownsRow n 45 68 v ts.length (tcs ts)
  stms : ∀ t ∈ ts, Stms n w t
theorem BufAt.new {w : World} {n B : Nat} {src : Ad} {mtu : Int} (h : n ≤ B) (hr : Row w B 98 (bfc src mtu (.slice none 0 0))) : BufAt w n B src mtu (.slice none 0 0) [] :=
  ⟨h, hr, World.ownsRow_nil _ _ _ _, fun _ h => by cases h⟩
theorem BufAt.below {w w' : World} {n B : Nat} {src : Ad} {mtu : Int} {v : Value} {ts : List Tl} (h : BufAt w n B src mtu v ts) (hb : Below w.heap.size w w') : BufAt w' n B src mtu v ts :=
  ⟨h.ge, h.row.below hb h.row.lt, own_keep h.own (grownBy_below none hb) (.inr rfl), fun t ht => own_keep (h.stms t ht) (grownBy_below none hb) (.inr rfl)⟩
theorem BufAt.drew {w : World} {n B : Nat} {src : Ad} {mtu : Int} {v : Value} {ts : List Tl} (h : BufAt w n B src mtu v ts) : BufAt w.drew n B src mtu v ts := h.below (bd _)
theorem BufAt.tlw {w : World} {n B : Nat} {src : Ad} {mtu : Int} {a : Option Addr} {m c : Nat} {ts : List Tl} (h : BufAt w n B src mtu (.slice a m c) ts) (hm : ts.length = m) : TlW w a m ts :=
  TlW.ofOwn (hm ▸ h.own) hm fun t ht => own_src77 (h.stms t ht)
theorem len7_any (w : World) (n B : Nat) (src : Ad) (mtu : Int) (v : Value) (ts : List Tl) (h : BufAt w n B src mtu v ts) :
    Calls Tryz.prog 16 #[.pointer (some ⟨B, 0, none⟩)] w fun e w' => e = .returned (.int .i64 (ts.length : Nat)) ∧ w = w' := by
  obtain ⟨a, c, rfl⟩ := own_shape2 h.own
  have c17 : w.cell? ⟨B, 17, none⟩ = some (.slice a ts.length c) := (h.row.cell 17).trans (bfc17 _ _ _)
  generalize ts.length = m at *
  go_enter Tryz.func16, Tryz.ntmps16
  go_wp2_with fail
  go_ret
  exact ⟨rfl, rfl⟩
theorem len7_none (w : World) : Calls Tryz.prog 16 #[.pointer none] w fun e w' => e = .returned (.int .i64 0) ∧ w = w' := by
  go_enter Tryz.func16, Tryz.ntmps16
  go_wp2_with fail
  go_ret
  exact ⟨rfl, rfl⟩
theorem flush_none (w : World) : Calls Tryz.prog 17 #[.pointer none] w fun e w' => e = .returned (.slice none 0 0) ∧ w = w' := by
  go_enter Tryz.func17, Tryz.ntmps17
  go_wp2_with fail
  go_ret
  exact ⟨rfl, rfl⟩
theorem add_none (a : Option Addr) (n c : Nat) (w : World) : Calls Tryz.prog 15 #[.pointer none, .slice a n c] w fun e w' => e = .returned (.int .i64 7) ∧ w = w' := by
  go_enter Tryz.func15, Tryz.ntmps15
  go_wp2_with fail
  go_ret
  exact ⟨rfl, rfl⟩
/-- What Flush answers: the packets; none waits. -/
def Flushd (w : World) (n B : Nat) (src : Ad) (mtu : Int) (r : List (List UInt8)) (e : Ending) (w' : World) : Prop := ∃ a m c qs, e = .returned (.slice a m c) ∧ qs.map Part.l = r ∧ m = qs.length ∧ Ac w.heap.size w' (.slice a m c) qs ∧ BufAt w' n B src mtu (.slice none 0 0) [] ∧ w.grownBy w' (some B)
set_option maxHeartbeats 4000000 in
theorem flush_any (w : World) (n B : Nat) (src : Ad) (mtu : Int) (v : Value) (ts : List Tl) (h : BufAt w n B src mtu v ts) (hf : ∀ t ∈ ts, TFit t.key ∧ t.sn ≤ 100000) (hn : ts.length ≤ 100000) :
    Calls Tryz.prog 17 #[.pointer (some ⟨B, 0, none⟩)] w (Flushd w n B src mtu (pakL src mtu (ts.map Tl.key)).1) := by
  obtain ⟨a, c, rfl⟩ := own_shape2 h.own
  obtain ⟨m, hm⟩ : ∃ m, ts.length = m := ⟨_, rfl⟩
  rw [hm] at h
  obtain ⟨R, hR⟩ : ∃ R, pakL src mtu (ts.map Tl.key) = R := ⟨_, rfl⟩
  have HP : Hid (∀ W, BufAt W n B src mtu (.slice a m c) ts → Calls Tryz.prog 7 #[(Value.agg (acells src).toArray), .int .i64 mtu, .slice a m c] W (Packd W R)) := fun W hW => by
    rw [← hR]
    exact pack_any src mtu a m c ts W (hW.tlw hm) hf (by omega)
  rw [hR]
  clear hR hf hn hm
  obtain ⟨pl, z⟩ := R
  go_enter Tryz.func17, Tryz.ntmps17
  go_upto_region 3 with fail
  refine wp_region_noPanic ?_
  refine wp_region_held_drew (S := fun W => BufAt W n B src mtu (.slice a m c) ts ∧ Below w.heap.size w W) (by kernel_rfl) (⟨h.drew, bd _⟩) (fun hHeld => ?_)
  refine tA 0 ?_
  refine tA 1 ?_
  refine tA 2 ?_
  refine tL 3 rfl (yA src (fun w h => h.1.row.bSrc) (by rfl) rfl rfl) ?_
  refine tA 4 ?_
  refine tA 5 ?_
  refine tA 6 ?_
  refine tA 7 ?_ (hv := by intro w hSw; (try dsimp only at hSw); have z3 := (hSw.1.row.cell 16).trans (bfc16 _ _ _); go_simp <;> with_reducible rfl)
  refine tA 8 ?_
  refine tA 9 ?_
  refine tA 10 ?_
  refine tA 11 ?_ (hv := by intro w hSw; (try dsimp only at hSw); have z3 := (hSw.1.row.cell 17).trans (bfc17 _ _ _); go_simp <;> with_reducible rfl)
  refine r1 12 fun K hK => ?_
  go_simp
  refine (HP.out _ hHeld.1).mono ?_
  rintro e w1 ⟨pa, pn, pc, qs, rfl, hq, hpn, hac, b1⟩
  refine oK hK (by exact ⟨hHeld.1.below b1, bt hHeld.2 b1⟩) fun hHeld => ?_
  clear hK K
  refine tA 13 ?_
  refine tA 14 ?_
  refine tA 15 ?_
  refine tA 16 ?_
  refine tA 17 ?_
  refine dN ?_
  refine NoPanic.normal ?_
  have c17 : w1.cell? ⟨B, 17, none⟩ = some (.slice a m c) := (hHeld.1.row.cell 17).trans (bfc17 _ _ _)
  have f17 := hHeld.1.row.frozen 17
  go_wp2_with fail
  have r' := hHeld.1.row.set 17 (.slice none 0 0)
  rw [bfc_set] at r'
  have g' := grownBy_setCell w1 B 17 (.slice none 0 0)
  have hlt : B < w.heap.size := h.row.lt
  have hac' : Ac w.heap.size (w1.setCell ⟨B, 17, none⟩ (.slice none 0 0)) (.slice pa pn pc) qs :=
    ⟨own_keep hac.own g' (.inl fun e => by have := (hac.own.lt _ e).1; simp at this; omega), fun q hq => own_keep (hac.bods q hq) g' (.inl fun e => by have := ((hac.bods q hq).lt _ e).1; simp at this; omega)⟩
  go_ret
  exact ⟨pa, pn, pc, qs, by rw [hpn]; rfl, hq, hpn, hac', .new h.ge r', (grownBy_below (some B) hHeld.2).trans g'⟩
end Go.Proofs.YtdibjgcokebfbaaGreat

namespace Go.Proofs.YtdibjgcokebfbaaGreat
open Go.RowKit
set_option linter.unusedSimpArgs false
set_option linter.unusedVariables false
set_option maxRecDepth 20000
/-- All blocks stay but the Buffer's and that of what waits; what waits lies where it lay, or in a new block. -/
structure Kps (w w' : World) (B : Nat) (v v' : Value) : Prop where
  os : w'.os = w.os
  tape : w'.tape = w.tape
  output : w'.output = w.output
  size : w.heap.size ≤ w'.heap.size
  block : ∀ k, k < w.heap.size → k ≠ B → some k ≠ v.ownBlock → w'.heap[k]? = w.heap[k]? ∧ some k ≠ v'.ownBlock
theorem Kps.refl (w : World) (B : Nat) (v : Value) : Kps w w B v v := ⟨rfl, rfl, rfl, Nat.le_refl _, fun _ _ _ h => ⟨rfl, h⟩⟩
theorem Kps.trans {a b c : World} {B : Nat} {u v x : Value} (h : Kps a b B u v) (k : Kps b c B v x) : Kps a c B u x :=
  ⟨k.os.trans h.os, k.tape.trans h.tape, k.output.trans h.output, Nat.le_trans h.size k.size, fun i hi h1 h2 => by
    obtain ⟨e1, e2⟩ := h.block i hi h1 h2
    obtain ⟨e3, e4⟩ := k.block i (Nat.lt_of_lt_of_le hi h.size) h1 e2
    exact ⟨e3.trans e1, e4⟩⟩
theorem Kps.ofBelow {w w' : World} {B : Nat} {v : Value} (h : Below w.heap.size w w') : Kps w w' B v v := ⟨h.os, h.tape, h.output, h.size, fun k hk _ h2 => ⟨h.block k hk, h2⟩⟩
theorem Kps.ofApp {w w' : World} {B : Nat} {v v' : Value} (h : w.grownBy w' v.ownBlock) (ha : v'.ownBlock = v.ownBlock ∨ v'.ownBlock = some w.heap.size) : Kps w w' B v v' :=
  ⟨h.os, h.tape, h.output, h.size, fun k hk _ h2 => ⟨h.block k hk h2, by
    rcases ha with e | e
    · rw [e]; exact h2
    · rw [e]; intro q; cases q; omega⟩⟩
theorem Kps.ofSet {w w' : World} {B : Nat} {v : Value} (h : w.grownBy w' (some B)) : Kps w w' B v v :=
  ⟨h.os, h.tape, h.output, h.size, fun k hk h1 h2 => ⟨h.block k hk (fun e => h1 (Option.some.inj e)), h2⟩⟩
theorem Kps.below {w w' : World} {n B : Nat} {src : Ad} {mtu : Int} {v v' : Value} {ts : List Tl} (h : Kps w w' B v v') (hB : BufAt w n B src mtu v ts) : Below n w w' :=
  ⟨h.os, h.tape, h.output, h.size, fun k hk => (h.block k (Nat.lt_of_lt_of_le hk (Nat.le_trans hB.ge (Nat.le_of_lt hB.row.lt))) (by have := hB.ge; omega) (fun e => by have := (hB.own.lt k e.symm).1; omega)).1⟩
section
variable {ops : Array Oper} {op : Oper} {a : Act} {w : World} {Q : Exit → Act → World → Prop} {K : Act → World → Prop} {E : Prop}
theorem sBsT1 (x : Operand) (hw : Region.wanted op (yielded ops a.tmps) = true) (ho : op.op = .buildSlice 24 1 #[(0, x)]) (t : Tl) (hx : a.eval x = .agg (tcells t).toArray)
    (h : ∀ g W, w.heap.size ≤ g → Row W g 45 (tcells t) → Below w.heap.size w W → K (a.put op.dst (.slice (some ⟨g, 0, none⟩) 1 1)) W) : if Region.wanted op (yielded ops a.tmps) = true then Oper.wp Tryz.prog op a w K Q else E := by
  rw [if_pos hw]
  have h1 := h _ _ (Nat.le_refl _) (Row.new w 45 (tcells t)) (ba _ _)
  unfold Oper.wp execOp
  simp only [ho, List.map_toArray, List.map_cons, List.map_nil, hx, Sem.run_bind, run_bsT, Result.andThen_ok, Sem.run_pure]
  exact h1
theorem sAppT1 (s x : Operand) (hw : Region.wanted op (yielded ops a.tmps) = true)
    (ho : op.op = .call { callee := .builtin .append, args := #[s, x], argTypes := #[24, 24] })
    (base : Nat) (v : Value) (n : Nat) (ts : List Tl) (hs : a.eval s = v) (hown : w.ownsRow base 45 68 v n (tcs ts))
    (g : Nat) (t : Tl) (c : Nat) (hx : a.eval x = .slice (some ⟨g, 0, none⟩) 1 c) (hr : Row w g 45 (tcells t)) (hn : n + 1 ≤ 1000000) (hbase : base ≤ w.heap.size)
    (h : ∀ v' w', w'.ownsRow base 45 68 v' (n + 1) (tcs (ts ++ [t])) → w.grownBy w' v.ownBlock → (v'.ownBlock = v.ownBlock ∨ v'.ownBlock = some w.heap.size) → K (a.put op.dst v') w') : if Region.wanted op (yielded ops a.tmps) = true then Oper.wp Tryz.prog op a w K Q else E := by
  rw [if_pos hw]
  obtain ⟨i0, hi, hz0, hz1, hz2⟩ := info_parts infoT
  obtain ⟨v', w', hrun, h2, h3, _, h5⟩ := run_append_own_at (P := Tryz.prog) w base 24 op.type 45 i0 (.agg (tcells zeroT).toArray) 68 112 Tryz.underlying24 hi hz0 hz1 hz2 rfl (by decide) v n (tcs ts) hown ⟨g, 0, none⟩ 1 c (tcells t) (by simp [tcells_len]) (fun j u hu => by rw [Addr.add_mid, Nat.zero_add, hr.cell]; exact hu) (tcells_one t) (by unfold maxLen; omega) (by omega) hbase
  have h1 := h v' w' (by rw [tcs_append]; simpa [tcs] using h2) h3 h5
  unfold Oper.wp execOp
  simp only [ho, resolve, invoke, builtin, Sem.run_bind, Sem.run_pure, Result.andThen_ok, List.map_toArray, List.map_cons, List.map_nil, hs, hx, hrun]
  exact h1
theorem sStU (x y : Operand) (hw : Region.wanted op (yielded ops a.tmps) = true) (ho : op.op = .store 24 x y) (b c : Nat) {U : TypeId} (cs : List Value) (ad : Option Addr) (n m : Nat) (hx : a.eval x = .pointer (some ⟨b, c, none⟩)) (hy : a.eval y = .slice ad n m) (hr : Row w b U cs) (hc : c < cs.length)
    (h : ∀ W, w.grownBy W (some b) → Row W b U (cs.set c (.slice ad n m)) → K (a.put op.dst undef) W) : if Region.wanted op (yielded ops a.tmps) = true then Oper.wp Tryz.prog op a w K Q else E := by
  rw [if_pos hw]
  have c1 : w.cell? ⟨b, c, none⟩ = some cs[c] := by rw [hr.cell]; exact List.getElem?_eq_getElem hc
  have c2 := hr.frozen c
  have h1 := h _ (grownBy_setCell w b c (.slice ad n m)) (hr.set c (.slice ad n m))
  unfold Oper.wp execOp
  simp only [ho, hx, hy]
  go_simp
  exact h1
end
theorem yTl {ops : Array Oper} {S : World → Prop} {op : Oper} {a : Act} {b o : Nat} {x : Operand} (t : Tl) (hS : ∀ w, S w → w.rangeAt b o (tcells t)) (hw : Region.wanted op (yielded ops a.tmps) = true) (ho : op.op = .load 45 x) (hx : a.eval x = .pointer (some ⟨b, o, none⟩)) : YieldsIf Tryz.prog ops S op (.agg (tcells t).toArray) a :=
  yieldsIf_load_mid hw _ x ho b o hx (tcells t) _ hS Tryz.underlying45 rfl (by rw [infoTs, tcells_len])
/-- What Add answers. -/
def Addd (w : World) (n B : Nat) (src : Ad) (mtu : Int) (v : Value) (ts us : List Tl) (z : Int) (e : Ending) (w' : World) : Prop := e = .returned (.int .i64 z) ∧ ∃ v' vs, BufAt w' n B src mtu v' (ts ++ vs) ∧ vs.map Tl.key = (if z = 0 then us.map Tl.key else []) ∧ Kps w w' B v v'
set_option maxHeartbeats 8000000 in
theorem add_any (w : World) (n B : Nat) (src : Ad) (mtu : Int) (v : Value) (ts : List Tl) (al : Option Addr) (m cl : Nat) (us : List Tl) (h : BufAt w n B src mtu v ts) (hm : us.length = m) (HT : ∀ W v', Kps w W B v v' → TlW W al m us) (hf : ∀ t ∈ us, TFit t.key ∧ t.sn ≤ 100000) (hn : m ≤ 100000) (hts : ts.length ≤ 100000) :
    Calls Tryz.prog 15 #[.pointer (some ⟨B, 0, none⟩), .slice al m cl] w (Addd w n B src mtu v ts us (pakL src mtu (us.map Tl.key)).2) := by
  obtain ⟨a, c, rfl⟩ := own_shape2 h.own
  obtain ⟨R, hR⟩ : ∃ R, pakL src mtu (us.map Tl.key) = R := ⟨_, rfl⟩
  have HP : Hid (∀ W, Below w.heap.size w W → Calls Tryz.prog 7 #[(Value.agg (acells src).toArray), .int .i64 mtu, .slice al m cl] W (Packd W R)) := fun W hW => by
    rw [← hR]
    exact pack_any src mtu al m cl us W (HT W _ (Kps.ofBelow hW)) hf (by omega)
  rw [hR]
  clear hR
  have HT0 : Hid (∀ W v', Kps w W B (.slice a ts.length c) v' → TlW W al m us) := HT
  have HF : Hid (∀ t ∈ us, t.sn ≤ 100000) := fun t ht => (hf t ht).2
  have HM : Hid (us.length = m) := hm
  have HTS : Hid (ts.length ≤ 100000) := hts
  clear HT hf hm hts
  generalize hv0 : Value.slice a ts.length c = v0 at *
  obtain ⟨pl, z⟩ := R
  go_enter Tryz.func15, Tryz.ntmps15
  go_upto_region 3 with fail
  refine wp_region_noPanic ?_
  refine wp_region_held_drew (S := fun W => BufAt W n B src mtu v0 ts ∧ Below w.heap.size w W) (by kernel_rfl) (⟨h.drew, bd _⟩) (fun hHeld => ?_)
  refine tA 0 ?_
  refine tA 1 ?_
  refine tA 2 ?_
  refine tL 3 rfl (yA src (fun w h => h.1.row.bSrc) (by rfl) rfl rfl) ?_
  refine tA 4 ?_
  refine tA 5 ?_
  refine tA 6 ?_
  refine tA 7 ?_ (hv := by intro w hSw; (try dsimp only at hSw); have z3 := (hSw.1.row.cell 16).trans (bfc16 _ _ _); go_simp <;> with_reducible rfl)
  refine tA 8 ?_
  refine r1 9 fun K hK => ?_
  go_simp
  refine (HP.out _ hHeld.2).mono ?_
  rintro e w1 ⟨pa, pn, pc, qs, rfl, _, _, _, b1⟩
  refine oK hK (by exact ⟨hHeld.1.below b1, bt hHeld.2 b1⟩) fun hHeld => ?_
  clear hK K
  refine tA 10 ?_
  refine tA 11 ?_
  refine tA 12 ?_
  refine tA 13 ?_
  refine tA 14 ?_
  refine dN ?_
  refine NoPanic.normal ?_
  have K1 : Kps w w1 B v0 v0 := Kps.ofBelow hHeld.2
  have H1 := hHeld.1
  clear hHeld b1
  by_cases hz : z = 0
  · subst hz
    go_wp2_with fail
    clear hv0
    go_loopw [29] (fun i wr => ∃ (j : Nat) (v' : Value) (vs : List Tl), j ≤ m ∧ i = .int .i64 j ∧ BufAt wr n B src mtu v' (ts ++ vs) ∧ vs.map Tl.key = (us.take j).map Tl.key ∧ Kps w wr B v0 v') (fun i _ => m - (intOf i).toNat)
    case atStart => exact ⟨0, v0, [], Nat.zero_le _, rfl, by rw [List.append_nil]; exact H1, rfl, K1⟩
    case round =>
      obtain ⟨j, v', vs, hj, rfl, HB, hk, HK⟩ := hrel
      replace hk : Hid (vs.map Tl.key = (us.take j).map Tl.key) := hk
      rename World => W
      by_cases hlt : j < m
      · have hlt' : (j : Int) < (m : Int) := by omega
        have hju : j < us.length := by rw [HM.out]; exact hlt
        have TW := HT0.out W v' HK
        obtain ⟨g, o, rfl, hg, hr⟩ := TW.at hju
        have hst := TW.stms us[j] (List.getElem_mem hju)
        have hsn := HF.out us[j] (List.getElem_mem hju)
        have HKN : Hid ((us.take (j + 1)).map Tl.key = (us.take j).map Tl.key ++ [us[j].key]) := by
          show _ = _
          rw [List.take_succ_eq_append_getElem hju, List.map_append]; rfl
        have hvl : Hid (vs.length = j) := by
          have := congrArg List.length hk.out
          simp at this
          show vs.length = j
          omega
        generalize us[j] = u at *
        have HN : Hid ((ts ++ vs).length + 1 ≤ 1000000) := by
          show _ ≤ _
          rw [List.length_append, hvl.out]; have := HTS.out; omega
        clear TW HT0 HF HM hlt hju HP H1 K1 h
        go_upto_region 10 with (first
          | (have kk := r5; go_at_call 40; refine (clone32_any _ _ _ u.st _ st5 hsn).mono ?_; rintro e w6 ⟨ca, cc, rfl, own6, b6⟩; have r6 := r5.below b6 r5.lt; have b56 := bt b5 b6; have c67' : w6.cell? ⟨gT, 67, none⟩ = some (.slice u.sa u.sn u.sc) := (r6.cell 67).trans (tcells_get u); have f67 := r6.frozen 67; clear c67 r5 st5)
          | (have kk := rT; refine stT (.tmp 8) (.tmp 32) (by rfl) rfl gT u _ rfl rfl rT ?_; intro w5 hg5 r5; have b5 : Below W.heap.size W w5 := t3.grown hg5 t3.size (fun k hk => by cases hk; exact t1); have st5 := Src.below hst b5 (Src.lt hst); have c67 : w5.cell? ⟨gT, 67, none⟩ = some (.slice u.sa u.sn u.sc) := (r5.cell 67).trans (tcells_get u); clear kk rT)
          | (have kk := hg; refine alG infoTz (by rfl) rfl ?_; intro gT wT t1 t2 t3 rT; clear kk hg)
          | (have kk := hg; refine ldTm (.tmp 31) (by rfl) rfl g (o + j * 68) u rfl hr ?_))
        obtain ⟨u', hu', ku', r7⟩ : ∃ u' : Tl, (u'.sa = ca ∧ u'.sn = u.sn ∧ u'.sc = cc ∧ u'.st = u.st) ∧ u'.key = u.key ∧ Row (w6.setCell ⟨gT, 67, none⟩ (.slice ca u.sn cc)) gT 45 (tcells u') := ⟨{ u with sa := ca, sn := u.sn, sc := cc, st := u.st }, ⟨rfl, rfl, rfl, rfl⟩, rfl, r6.tSt ca u.sn cc u.st⟩
        have b7 := b56.setCell (p := ⟨gT, 67, none⟩) t1 (.slice ca u.sn cc)
        have g7 := grownBy_setCell w6 gT 67 (.slice ca u.sn cc)
        have hnW : n ≤ W.heap.size := Nat.le_trans HB.ge (Nat.le_of_lt HB.row.lt)
        have s7 : Stms n (w6.setCell ⟨gT, 67, none⟩ (.slice ca u.sn cc)) u' := by
          unfold Stms
          rw [hu'.1, hu'.2.1, hu'.2.2.1, hu'.2.2.2]
          exact own_keep (own_le own6 (Nat.le_trans hnW b5.size)) g7 (.inl fun e => own_ne own6 r6 (by decide) e.symm)
        have B7 := HB.below b7
        have K7 := HK.trans (Kps.ofBelow b7)
        have hgv : ∀ k, v'.ownBlock = some k → k < W.heap.size := fun k hk => (HB.own.lt k hk).2
        have hgB : B < W.heap.size := HB.row.lt
        replace ku' : Hid (u'.key = u.key) := ku'
        refine name_world (R := fun W => Code.wp _ _ _ _ W) (P := fun Z => Row Z gT 45 (tcells u') ∧ Stms n Z u' ∧ BufAt Z n B src mtu v' (ts ++ vs) ∧ Kps w Z B v0 v') _ ⟨r7, s7, B7, K7⟩ ?_
        clear r7 s7 B7 K7 b7 g7 b56 b6 b5 r6 own6 c67' f67 HB HK hst hr hu' t3 hg5
        rintro Z ⟨r7, s7, B7, K7⟩
        refine wp_region_noPanic ?_
        refine wp_region_N (S := fun X => Row X gT 45 (tcells u') ∧ Row X B 98 (bfc src mtu v')) 10 (by kernel_rfl) (⟨r7, B7.row⟩) (fun hHeld => ?_)
        refine takeN_lit (i := 0) (v := ?_) (F := #[false, true, true, true, true, true, true, true, false, false, false]) rfl (by kernel_rfl) (by kernel_rfl) (by kernel_rfl) (by kernel_rfl) (fun _ _ _ h => h) (Or.inl ⟨by rfl, ?_⟩) (by assumption) ?_
        rotate_left
        · (intro w hSw; (try dsimp only at hSw); go_simp <;> with_reducible rfl)
        try simp only [Act.put, List.setIfInBounds_toArray, List.set_cons_zero, List.set_cons_succ]
        refine takeN_lit (i := 1) (v := ?_) (F := #[true, false, false, false, false, true, true, false, false, false, false]) rfl (by kernel_rfl) (by kernel_rfl) (by kernel_rfl) (by kernel_rfl) (fun _ _ _ h => h) (Or.inl ⟨by rfl, ?_⟩) (by assumption) ?_
        rotate_left
        · (intro w hSw; (try dsimp only at hSw); go_simp <;> with_reducible rfl)
        try simp only [Act.put, List.setIfInBounds_toArray, List.set_cons_zero, List.set_cons_succ]
        refine takeN_lit (i := 2) (v := ?_) (F := #[true, true, false, false, false, true, true, false, false, false, false]) rfl (by kernel_rfl) (by kernel_rfl) (by kernel_rfl) (by kernel_rfl) (fun _ _ _ h => h) (Or.inl ⟨by rfl, ?_⟩) (by assumption) ?_
        rotate_left
        · (intro w hSw; (try dsimp only at hSw); go_simp <;> with_reducible rfl)
        try simp only [Act.put, List.setIfInBounds_toArray, List.set_cons_zero, List.set_cons_succ]
        refine takeN_lit (i := 3) (v := ?_) (F := #[true, true, true, false, false, true, true, false, false, false, false]) rfl (by kernel_rfl) (by kernel_rfl) (by kernel_rfl) (by kernel_rfl) (fun _ _ _ h => h) (Or.inl ⟨by rfl, ?_⟩) (by assumption) ?_
        rotate_left
        · (intro w hSw; (try dsimp only at hSw); go_simp <;> with_reducible rfl)
        try simp only [Act.put, List.setIfInBounds_toArray, List.set_cons_zero, List.set_cons_succ]
        refine takeN_lit (i := 4) (v := ?_) (F := #[true, true, true, true, false, true, true, false, false, false, false]) rfl (by kernel_rfl) (by kernel_rfl) (by kernel_rfl) (by kernel_rfl) (fun _ _ _ h => h) (Or.inl ⟨by rfl, ?_⟩) (by assumption) ?_
        rotate_left
        · (intro w hSw; (try dsimp only at hSw); have z3 := (hSw.2.cell 17).trans (bfc17 _ _ _); go_simp <;> with_reducible rfl)
        try simp only [Act.put, List.setIfInBounds_toArray, List.set_cons_zero, List.set_cons_succ]
        refine takeN_lit (i := 5) (F := #[true, true, true, true, true, false, false, false, false, false, false]) rfl (by kernel_rfl) (by kernel_rfl) (by kernel_rfl) (by kernel_rfl) (fun _ _ _ h => h) (yTl u' (fun w h => h.1.range) (by rfl) rfl rfl) (by assumption) ?_
        try simp only [Act.put, List.setIfInBounds_toArray, List.set_cons_zero, List.set_cons_succ]
        refine wpAnyN_ready (rs := [6]) (by kernel_rfl) (by simp) ?_
        refine consN_lit rfl (fun K hK => ?_) ?_
        · skip
          refine sBsT1 (.tmp 42) (by rfl) rfl u' rfl ?_
          intro gL w8 l8 r8 b8
          have B8 := B7.drew.below b8
          have s8 : Stms n w8 u' := own_keep s7 (grownBy_below none (bt (bd _) b8)) (.inr rfl)
          have K8 := K7.trans ((Kps.ofBelow (bd _)).trans (Kps.ofBelow b8))
          refine hK.out _ _ (Or.inr ?_) (fun hHeld => ?_)
          · exact ⟨hHeld.1.below b8 hHeld.1.lt, hHeld.2.below b8 hHeld.2.lt⟩
          replace hHeld := hHeld.resolve_left (by decide)
          clear hK K
          try simp only [Act.put, List.setIfInBounds_toArray, List.set_cons_zero, List.set_cons_succ]
          refine wpAnyN_ready (rs := [7]) (by kernel_rfl) (by simp) ?_
          refine consN_lit rfl (fun K hK => ?_) ?_
          · skip
            refine sAppT1 (.tmp 41) (.tmp 43) (by rfl) rfl n v' (ts ++ vs).length (ts ++ vs) rfl B8.own gL u' 1 rfl r8 HN.out (Nat.le_trans B8.ge (Nat.le_of_lt B8.row.lt)) ?_
            intro v9 w9 own9 g9 a9
            have hne1 : some gT ≠ v'.ownBlock := fun e => absurd (hgv _ e.symm) (by omega)
            have hne2 : some B ≠ v'.ownBlock := own_ne B8.own B8.row (by decide)
            refine hK.out _ _ (Or.inr ?_) (fun hHeld => ?_)
            · exact ⟨hHeld.1.grown g9 hne1, hHeld.2.grown g9 hne2⟩
            replace hHeld := hHeld.resolve_left (by decide)
            clear hK K
            try simp only [Act.put, List.setIfInBounds_toArray, List.set_cons_zero, List.set_cons_succ]
            refine takeN_lit (i := 8) (v := ?_) (F := #[true, true, true, true, true, true, true, true, false, false, false]) rfl (by kernel_rfl) (by kernel_rfl) (by kernel_rfl) (by kernel_rfl) (fun _ _ _ h => h) (Or.inl ⟨by rfl, ?_⟩) (by assumption) ?_
            rotate_left
            · (intro w hSw; (try dsimp only at hSw); go_simp <;> with_reducible rfl)
            try simp only [Act.put, List.setIfInBounds_toArray, List.set_cons_zero, List.set_cons_succ]
            refine takeN_lit (i := 9) (v := ?_) (F := #[true, true, true, true, true, true, true, true, true, false, false]) rfl (by kernel_rfl) (by kernel_rfl) (by kernel_rfl) (by kernel_rfl) (fun _ _ _ h => h) (Or.inl ⟨by rfl, ?_⟩) (by assumption) ?_
            rotate_left
            · (intro w hSw; (try dsimp only at hSw); go_simp <;> with_reducible rfl)
            try simp only [Act.put, List.setIfInBounds_toArray, List.set_cons_zero, List.set_cons_succ]
            refine wpAnyN_ready (rs := [10]) (by kernel_rfl) (by simp) ?_
            refine consN_lit rfl (fun K hK => ?_) ?_
            · skip
              obtain ⟨a9', c9', rfl⟩ := own_shape2 own9
              refine sStU (.tmp 46) (.tmp 44) (by rfl) rfl B 17 _ a9' _ c9' rfl rfl hHeld.2 (by rw [bfc_len]; omega) ?_
              intro w10 g10 r10
              rw [bfc_set] at r10
              refine hK.out _ _ (Or.inl rfl) (fun _ => ?_)
              clear hK K
              try simp only [Act.put, List.setIfInBounds_toArray, List.set_cons_zero, List.set_cons_succ]
              refine wpAnyN_done (by kernel_rfl) ?_ _
              refine NoPanic.normal ?_
              have hlen : ((ts ++ vs) ++ [u']).length = (ts ++ vs).length + 1 := by rw [List.length_append]; rfl
              have hown9 : w9.ownsRow n 45 68 (.slice a9' ((ts ++ vs).length + 1) c9') ((ts ++ vs) ++ [u']).length (tcs ((ts ++ vs) ++ [u'])) := by rw [hlen]; exact own9
              have hb9 : Value.ownBlock (.slice a9' ((ts ++ vs).length + 1) c9') ≠ some B := fun e => own_ne own9 (hHeld.2) (by decide) e.symm
              have B10 : BufAt w10 n B src mtu (.slice a9' ((ts ++ vs).length + 1) c9') (ts ++ (vs ++ [u'])) := by
                refine ⟨B8.ge, r10, ?_, ?_⟩
                · rw [← List.append_assoc]
                  exact own_keep hown9 g10 (.inl hb9)
                · intro t ht
                  rw [← List.append_assoc] at ht
                  rcases List.mem_append.1 ht with h1 | h1
                  · exact own_keep (own_keep (B8.stms t h1) g9 (own_apart (B8.stms t h1) B8.own (by decide))) g10 (.inl fun e => own_ne (B8.stms t h1) B8.row (by decide) e.symm)
                  · rw [List.mem_singleton.1 h1]
                    exact own_keep (own_keep s8 g9 (own_apart s8 B8.own (by decide))) g10 (.inl fun e => own_ne s8 B8.row (by decide) e.symm)
              have K10 := (K8.trans (Kps.ofApp g9 a9)).trans (Kps.ofSet g10)
              have HKM : Hid ((vs ++ [u']).map Tl.key = (us.take (j + 1)).map Tl.key) := by
                show _ = _
                rw [HKN.out, List.map_append, hk.out, ← ku'.out]
                rfl
              clear r10 g10 own9 hown9 g9 a9 K8 s8 B8 r8 b8 hHeld hb9
              go_wp2_with fail
              go_roundw
              case rel => exact ⟨j + 1, _, vs ++ [u'], by omega, by go_num, B10, HKM.out, K10⟩
              case measure => simp [intOf]; omega
            exact AllReadyN.nil
          exact AllReadyN.nil
        exact AllReadyN.nil
      · obtain rfl : m = j := by omega
        have ht : us.take m = us := List.take_of_length_le (by rw [HM.out]; exact Nat.le_refl _)
        rw [ht] at hk
        have hlt' : ¬ (m : Int) < (m : Int) := by omega
        go_wp2_with fail
        go_ret
        exact ⟨rfl, v', vs, HB, by rw [if_pos rfl]; exact hk.out, HK⟩
  · have hz' : (z == 0) = false := by simpa using hz
    have HZ : Hid (z ≠ 0) := hz
    clear hz
    go_wp2_with fail
    go_ret
    exact ⟨rfl, v0, [], by rw [List.append_nil]; exact H1, by rw [if_neg HZ.out]; rfl, K1⟩
end Go.Proofs.YtdibjgcokebfbaaGreat

namespace Go.Proofs.YtdibjgcokebfbaaGreat
open Go.RowKit
set_option linter.unusedSimpArgs false
set_option maxRecDepth 20000
theorem pak_num (src : Ad) (mtu : Int) : ∀ (ks : List TK) (d : DS) (acc : List (List UInt8)), (pakR src mtu d ks acc).1.length ≤ acc.length + ks.length + 1
  | [], d, acc => by
    rw [pakR]
    split
    · dsimp only; omega
    · simp
  | k :: ks, d, acc => by
    rw [pakR]
    split
    · simp
    · split
      · have := pak_num src mtu ks (takD d k) acc
        simp; omega
      · split
        · have := pak_num src mtu ks (takD (begD src mtu) k) (acc ++ [pktD d])
          simp at this ⊢; omega
        · simp
theorem pakL_num (src : Ad) (mtu : Int) (ks : List TK) : (pakL src mtu ks).1.length ≤ ks.length + 1 := by
  unfold pakL
  split
  · simp
  · have := pak_num src mtu ks (begD src mtu) []
    simpa using this
end Go.Proofs.YtdibjgcokebfbaaGreat
