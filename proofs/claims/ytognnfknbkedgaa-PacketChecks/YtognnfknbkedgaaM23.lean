/-
  The contracts of fits and fitsUpdate for Tlvs that Parse may tell.
-/
import Derived.Test.YtognnfknbkedgaaM18
import Derived.Test.YtognnfknbkedgaaM22
namespace Go.Proofs.Ytognnfknbkedgaa
open Go.RowKit
set_option linter.unusedSimpArgs false
set_option maxRecDepth 20000

theorem fits_2 (t : Tl) (w : World) (hy : t.ty = 2) :
    Calls Try.prog 23 #[.agg (tcells t).toArray] w fun e w' => e = .returned (.bool true) ∧ Below w.heap.size w w' := by
  have T0 : (tcells t)[0]? = some (.int .u8 2) := by show some (Value.int .u8 (t.ty : Int)) = _; rw [hy]; rfl
  clear hy
  go_enter Try.func23, Try.ntmps23
  go_wp2
  go_ret
  exact ⟨rfl, ba _ _⟩
theorem fits_3 (t : Tl) (w : World) (hy : t.ty = 3) :
    Calls Try.prog 23 #[.agg (tcells t).toArray] w fun e w' => e = .returned (.bool true) ∧ Below w.heap.size w w' := by
  have T0 : (tcells t)[0]? = some (.int .u8 3) := by show some (Value.int .u8 (t.ty : Int)) = _; rw [hy]; rfl
  clear hy
  go_enter Try.func23, Try.ntmps23
  go_wp2
  go_ret
  exact ⟨rfl, ba _ _⟩
theorem fits_5_0false (t : Tl) (w : World) (hy : t.ty = 5) (hs : t.sn = 0) (hall : t.all = false) :
    Calls Try.prog 23 #[.agg (tcells t).toArray] w fun e w' => e = .returned (.bool true) ∧ Below w.heap.size w w' := by
  have RT := Row.new w 33 (tcells t)
  have T67 := tcells_get t
  rw [hs] at T67
  have T8 : (tcells t)[8]? = some (.bool false) := by rw [← hall]; rfl
  have T0 : (tcells t)[0]? = some (.int .u8 5) := by show some (Value.int .u8 (t.ty : Int)) = _; rw [hy]; rfl
  clear hy
  clear hs hall
  go_enter Try.func23, Try.ntmps23
  go_wp2
  go_ret
  exact ⟨rfl, ba _ _⟩
theorem fits_5_2false (t : Tl) (w : World) (hy : t.ty = 5) (hs : t.sn = 2) (hall : t.all = false) :
    Calls Try.prog 23 #[.agg (tcells t).toArray] w fun e w' => e = .returned (.bool true) ∧ Below w.heap.size w w' := by
  have RT := Row.new w 33 (tcells t)
  have T67 := tcells_get t
  rw [hs] at T67
  have T8 : (tcells t)[8]? = some (.bool false) := by rw [← hall]; rfl
  have T0 : (tcells t)[0]? = some (.int .u8 5) := by show some (Value.int .u8 (t.ty : Int)) = _; rw [hy]; rfl
  clear hy
  clear hs hall
  go_enter Try.func23, Try.ntmps23
  go_wp2
  go_ret
  exact ⟨rfl, ba _ _⟩
theorem fits_9false (t : Tl) (w : World) (hy : t.ty = 9) (hall : t.all = false) :
    Calls Try.prog 23 #[.agg (tcells t).toArray] w fun e w' => e = .returned (.bool true) ∧ Below w.heap.size w w' := by
  have RT := Row.new w 33 (tcells t)
  have T8 : (tcells t)[8]? = some (.bool false) := by rw [← hall]; rfl
  have T0 : (tcells t)[0]? = some (.int .u8 9) := by show some (Value.int .u8 (t.ty : Int)) = _; rw [hy]; rfl
  clear hy
  clear hall
  go_enter Try.func23, Try.ntmps23
  go_wp2
  go_ret
  exact ⟨rfl, ba _ _⟩
end Go.Proofs.Ytognnfknbkedgaa

namespace Go.Proofs.Ytognnfknbkedgaa
open Go.RowKit
set_option linter.unusedSimpArgs false
set_option maxRecDepth 20000

theorem run_ap_str (w : World) (ty : TypeId) (b : Addr) (olds : List Value) (hlo : olds.length = 4) (holds : ∀ j v, olds[j]? = some v → w.cell? (b.add j) = some v) (s : ByteArray) (h0 : 0 < s.size) (hs : s.size ≤ 1000000) :
    (Builtin.append_ #[40, 9] ty #[.slice (some b) 4 4, .string s]).run Try.prog w =
      .ok (.slice (some ⟨w.heap.size, 0, none⟩) (4 + s.size) (grownCap w (4 + s.size) 4 5))
        (w.drew.alloc (.cells (olds.toArray ++ s.data.map (fun b => Value.int .u8 b.toNat) ++ Builtin.zeroCells (Value.int .u8 0).cells (grownCap w (4 + s.size) 4 5 - (4 + s.size))) 5)) := by
  obtain ⟨i0, hi, hz0, hz1, hz2⟩ := info_parts info5
  have hn : ¬ (4 + s.size ≤ 4) := by omega
  have hn' : ¬ s.size = 0 := by omega
  have h63' : ¬ (9223372036854775807 < ((4 : Int) + (s.size : Int))) := by omega
  have h48' : ¬ (281474976710656 < Builtin.nextslicecap (4 + s.size) 4 * i0.bytes) := by have := growslice_fits (need := 4 + s.size) (old := 4) (bytes := i0.bytes) (by omega) (by rw [hz2]; omega); omega
  have hfo := run_firstCells_some (P := Try.prog) w.drew i0.size 4 b 4 4 olds (by rw [hz1]; omega) (by simpa using holds)
  have hx : (Array.map (fun b : UInt8 => Value.int IntKind.u8 (b.toNat : Int)) s.data).extract 0 s.size = Array.map (fun b : UInt8 => Value.int IntKind.u8 (b.toNat : Int)) s.data := by
    have hs : s.size = (Array.map (fun b : UInt8 => Value.int IntKind.u8 (b.toNat : Int)) s.data).size := by rw [Array.size_map]; rfl
    rw [hs, Array.extract_size]
  have hfs : ∀ w, (Builtin.firstCells i0.size s.size (.string s)).run Try.prog w = .ok (s.data.map (fun b => Value.int .u8 b.toNat)) w := fun w => by
    simp [Builtin.firstCells, hn']
  simp [Builtin.append_, run_underlying Try.underlying40, run_underlying Try.underlying9, sizeOf, typeInfo, zeroValue, hi, hz0, Builtin.lenOf, hn, h63', h48', Question.forced, hfo, hfs, newRow, grownCap]
theorem run_ap_str0 (w : World) (ty : TypeId) (b : Addr) (s : ByteArray) (h0 : s.size = 0) :
    (Builtin.append_ #[40, 9] ty #[.slice (some b) 4 4, .string s]).run Try.prog w = .ok (.slice (some b) 4 4) w := by
  obtain ⟨i0, hi, hz0, hz1, hz2⟩ := info_parts info5
  have he : s.data.extract 0 0 = #[] := by simp
  simp [Builtin.append_, run_underlying Try.underlying40, run_underlying Try.underlying9, sizeOf, typeInfo, zeroValue, hi, hz0, Builtin.lenOf, Builtin.firstCells, h0, storeCells]
section
variable {ops : Array Oper} {rest : List Oper} {o : Oper} {a : Act} {w : World} {Q : Exit → Act → World → Prop}
theorem ap_str (hgd : o.guard = none) (s x : Operand) (ho : o.op = .call { callee := .builtin .append, args := #[s, x], argTypes := #[40, 9] }) (b : Addr) (olds : List Value) (hlo : olds.length = 4) (holds : ∀ j v, olds[j]? = some v → w.cell? (b.add j) = some v) (st : ByteArray) (hs : a.eval s = .slice (some b) 4 4) (hx : a.eval x = .string st) (hsz : st.size ≤ 1000000)
    (h : ∀ ad c W, Below w.heap.size w W → Src W (some ad) (4 + st.size) c (olds ++ bcells st.data.toList) → wpList Try.prog ops Q rest (a.put o.dst (.slice (some ad) (4 + st.size) c)) W) : wpList Try.prog ops Q (o :: rest) a w := by
  by_cases h0 : st.size = 0
  · have hr := run_ap_str0 w o.type b st h0
    have hnil : bcells st.data.toList = [] := List.eq_nil_of_length_eq_zero (by rw [bcells_length]; simpa using h0)
    have h1 := h b 4 w (Below.refl _ _) ⟨by rw [List.length_append, hlo, hnil, h0]; rfl, (fun h => by cases h), fun ad had j v hv => by cases had; rw [hnil, List.append_nil] at hv; exact holds j v hv⟩
    rw [h0] at h1
    refine wpList_plain hgd fun K hK => ?_
    unfold Oper.wp execOp
    simp only [ho, resolve, invoke, builtin, Sem.run_bind, Sem.run_pure, Result.andThen_ok, List.map_toArray, List.map_cons, List.map_nil, hs, hx, hr]
    exact hK _ _ h1
  · have hr := run_ap_str w o.type b olds hlo holds st (by omega) hsz
    refine wpList_plain hgd fun K hK => ?_
    unfold Oper.wp execOp
    simp only [ho, resolve, invoke, builtin, Sem.run_bind, Sem.run_pure, Result.andThen_ok, List.map_toArray, List.map_cons, List.map_nil, hs, hx, hr]
    refine hK _ _ (h _ _ _ (bt (bd w) (ba _ _)) ⟨by rw [List.length_append, hlo, bcells_length]; exact congrArg (4 + ·) Array.length_toList, (fun h => by cases h), fun ad had j v hv => ?_⟩)
    cases had
    rw [Addr.add_mid, Nat.zero_add]
    have hlt : j < (olds ++ bcells st.data.toList).length := (List.getElem?_eq_some_iff.1 hv).1
    have e := cell_of_row (w.drew.alloc (.cells (olds.toArray ++ st.data.map (fun b => Value.int .u8 b.toNat) ++ Builtin.zeroCells (Value.int .u8 0).cells (grownCap w (4 + st.size) 4 5 - (4 + st.size))) 5)) w.heap.size j _ 5 (0, 0) (heap_alloc_new w.drew _)
    rw [e]
    have e2 : (olds.toArray ++ st.data.map (fun b => Value.int .u8 b.toNat) ++ Builtin.zeroCells (Value.int .u8 0).cells (grownCap w (4 + st.size) 4 5 - (4 + st.size))).toList = (olds ++ bcells st.data.toList) ++ (Builtin.zeroCells (Value.int .u8 0).cells (grownCap w (4 + st.size) 4 5 - (4 + st.size))).toList := by
      simp [bcells]
    rw [← Array.getElem?_toList, e2, List.getElem?_append_left hlt]
    exact hv
end
/-- A body's packet. -/
theorem wrap_any (s : ByteArray) (hs : s.size ≤ 65535) (w : World) : Calls Try.prog 21 #[.string s] w fun e w' => ∃ a c, e = .returned (.slice a (4 + s.size) c) ∧ Src w' a (4 + s.size) c (bcells (pkL s.data.toList)) ∧ Below w.heap.size w w' := by
  have e1 : bcells (pkL s.data.toList) = [.int .u8 42, .int .u8 2, .int .u8 ((s.size : Int) / 256), .int .u8 ((s.size : Int) % 256)] ++ bcells s.data.toList := by
    have hsz : s.data.toList.length = s.size := Array.length_toList
    have e := be16_cells (UInt16.ofNat s.size)
    have en : ((UInt16.ofNat s.size).toNat : Int) = (s.size : Int) := by simp; omega
    unfold pkL
    rw [hsz, bcells_append, bcells_append, e, en]
    rfl
  have HE : Hid (bcells (pkL s.data.toList) = [.int .u8 42, .int .u8 2, .int .u8 ((s.size : Int) / 256), .int .u8 ((s.size : Int) % 256)] ++ bcells s.data.toList) := e1
  clear e1
  have hs' : (s.size : Int) ≤ 65535 := by omega
  have N := new_src w #[.int .u8 42, .int .u8 2, .int .u8 ((s.size : Int) / 256), .int .u8 ((s.size : Int) % 256)]
  go_enter Try.func21, Try.ntmps21
  go_wp2_with (at_builtin; refine ap_str rfl (.tmp 10) (.tmp 11) rfl ⟨w.heap.size, 0, none⟩ [.int .u8 42, .int .u8 2, .int .u8 ((s.size : Int) / 256), .int .u8 ((s.size : Int) % 256)] rfl (N.cell _ rfl) s rfl rfl (by omega) ?_; intro ad c W hB hS)
  go_ret
  exact ⟨some ad, c, rfl, by rw [HE.out]; exact hS, bt (ba _ _) hB⟩
end Go.Proofs.Ytognnfknbkedgaa

namespace Go.Proofs.Ytognnfknbkedgaa
open Go.RowKit
set_option linter.unusedSimpArgs false
set_option maxRecDepth 20000

/-- Check takes a Tlv of which these hold. -/
theorem check_of (t r : Tl) (w : World) (hr : TSrc w r) (hrk : r.key = { zeroK with ty := t.ty }) (hrn : r.sn ≤ 100000)
    (hUn : ∀ W, Calls Try.prog 22 #[.agg (tcells t).toArray] W fun e w' => e = .returned (.tuple #[.agg (tcells r).toArray, .bool true]) ∧ Below W.heap.size W w')
    (hF : ∀ W, Calls Try.prog 23 #[.agg (tcells t).toArray] W fun e w' => e = .returned (.bool true) ∧ Below W.heap.size W w') (hq : chkQ t.pr = 0) :
    Calls Try.prog 10 #[.agg (tcells t).toArray] w fun e w' => e = .returned (.int .i64 0) ∧ Below w.heap.size w w' := by
  have HQ := checkQ_any t.pr
  rw [hq] at HQ
  have HS : Hid (∀ W, Below w.heap.size w W → Calls Try.prog 12 #[.agg (tcells r).toArray, .agg (tcells { zeroT with ty := t.ty }).toArray] W fun e w' => e = .returned (.bool true) ∧ Below W.heap.size W w') := fun W hW => psame_true r _ W (Src.below hr hW (Src.lt hr)) (Src.nil _) hrk hrn
  have RT := Row.new w 33 (tcells t)
  clear hrk hrn hq hr
  generalize hty : t.ty = y at *
  have HTY : Hid (t.ty = y) := hty
  clear hty
  go_enter Try.func10, Try.ntmps10
  go_wp2_with (first
    | (go_at_call 24; have kk := hb4; refine (HQ _).mono ?_; rintro e w5 ⟨rfl, hb5⟩)
    | (have kk := hb4; refine ldQ (.tmp 25) (by rfl) rfl _ _ t.pr rfl (rT4.rPr) ?_)
    | (go_at_call 23; have kk := hb3; refine (hF _).mono ?_; rintro e w4 ⟨rfl, hb4⟩; have rT4 := rT3.below hb4 rT3.lt)
    | (have kk := hb3; refine ldT (.tmp 1) (by rfl) rfl w.heap.size t rfl rT3 ?_)
    | (go_at_call 12; have kk := rC; refine (HS.out _ bC).mono ?_; rintro e w3 ⟨rfl, hb3⟩; have rT3 := rTC.below hb3 rTC.lt)
    | (have kk := rC; refine ldT (.tmp 3) (by rfl) rfl gA r rfl rC ?_)
    | (have kk := rA; refine stT (.tmp 3) (.tmp 8) (by rfl) rfl gA r _ rfl rfl rA ?_; intro wC hgC rC; have rTC := (rT1.below a3 rT1.lt).grown hgC (fun e => by have := Option.some.inj e; have := rT1.lt; omega); have bC := (bt b1 a3).grown hgC (bt b1 a3).size (fun k hk => by cases hk; exact Nat.le_trans b1.size a1); have c0 : wC.cell? ⟨w.heap.size, 0, none⟩ = some (.int .u8 (y : Int)) := (by have := rTC.cell 0; rw [this]; show some (Value.int .u8 (t.ty : Int)) = _; rw [HTY.out]))
    | (have kk := hb1; refine alG infoTz (by rfl) rfl ?_; intro gA wA a1 a2 a3 rA)
    | (go_at_call 22; refine (hUn _).mono ?_; rintro e w1 ⟨rfl, hb1⟩; have rT1 := RT.below hb1 RT.lt; have b1 := bt (ba w (.cells (tcells t).toArray 33)) hb1)
    | (refine ldT (.tmp 1) (by rfl) rfl w.heap.size t rfl RT ?_))
  go_ret
  exact ⟨rfl, bt (bt (bt bC hb3) hb4) hb5⟩

theorem check_8 (t : Tl) (w : World) (ht : TSrc w t) (hy : t.ty = 8) (hn : t.nonce = 0) (hr : t.rx = 0) (hh : t.hops = 0) (hu : t.uni = false) (hs : t.st = []) (hall : t.all = false) (hmet : t.met ≠ 65535) (hnob : nobB t.id = false) (hq : chkQ t.pr = 0) :
    Calls Try.prog 10 #[.agg (tcells t).toArray] w fun e w' => e = .returned (.int .i64 0) ∧ Below w.heap.size w w' := by
  have hl : t.sn = 0 := by have := TSrc.len ht; rw [hs] at this; exact this
  refine check_of t { t8 t with pr := zeroQ, id := zeroI, ad := zeroA } w ?_ ?_ ?_ (fun W => unnamed_8 t W hy) (fun W => fits_8 t W hy (fun W => fitsU_fin t W hall hmet hnob)) hq
  · rw [t8_def]; exact ht
  · rw [t8_def]
    obtain ⟨ty, no, iv, sq, rx, me, ho, un, al, id, ad, pr, sa, sn, sc, st⟩ := t
    simp only at hy hn hr hh hu hs
    subst hn hr hh hu hs
    rfl
  · rw [t8_def]; show t.sn ≤ _; omega
def lwS : Ad := ⟨[254, 128, 0, 0, 0, 0, 0, 0, 0, 0, 0, 0, 0, 0, 0, 1], rfl⟩
def lwP : Pf := ⟨⟨[0, 0, 0, 0, 0, 0, 0, 0, 0, 0, 255, 255, 10, 1, 3, 0], rfl⟩, 120⟩
def lwI : Id8 := ⟨[97, 98, 99, 100, 101, 102, 103, 104], rfl⟩
def lwA : Ad := ⟨[0, 0, 0, 0, 0, 0, 0, 0, 0, 0, 255, 255, 10, 0, 0, 9], rfl⟩
def lw1 : ByteArray := ⟨#[4, 6, 0, 0, 0, 5, 0, 100]⟩
def lw2 : ByteArray := ⟨#[6, 10, 0, 0, 97, 98, 99, 100, 101, 102, 103, 104, 7, 6, 1, 0, 10, 0, 0, 9, 8, 13, 1, 128, 24, 0, 0, 100, 0, 1, 0, 32, 10, 1, 2, 8, 11, 1, 0, 24, 2, 0, 100, 0, 1, 0, 32, 3]⟩
theorem lw1_e : parE (pkL lw1.data.toList) = 0 := by kernel_rfl
theorem lw2_e : parE (pkL lw2.data.toList) = 0 := by kernel_rfl
theorem lw1_k : (parL lwS (pkL lw1.data.toList)).map (fun k => (k.seq, k.intv)) = [(5, 100)] := by kernel_rfl
theorem lw2_k : (parL lwS (pkL lw2.data.toList)).map (fun k => (k.ty, k.nonce, k.rx, k.hops, k.uni, k.st, k.all, k.met)) = [(8, 0, 0, 0, false, [], false, 32), (8, 0, 0, 0, false, [], false, 32)] := by kernel_rfl
theorem lw2_i : ((parL lwS (pkL lw2.data.toList)).map (fun k => (k.id.l, k.ad.l, k.pr.d.a.l, k.pr.d.n, chkQ k.pr)))[1]? = some (lwI.l, lwA.l, lwP.a.l, 120, 0) := by kernel_rfl

theorem Tls.at0 {B : Nat} {w : World} {a : Option Addr} {c : Nat} {ts : List Tl} (h : Tls B w a c ts) (hne : ts ≠ []) : ∃ g, a = some ⟨g, 0, none⟩ ∧ g < w.heap.size ∧ ∀ j t, ts[j]? = some t → w.rangeAt g (j * 68) (tcells t) := by
  obtain ⟨g', o', e, hl, hr⟩ := h.tlw.place hne
  rcases h.own.2 with ⟨h1, h2⟩ | ⟨g, cap, cur, h1, _⟩
  · rw [e] at h1; cases h1
  · injection h1 with h2 _ _
    rw [h2] at e
    cases e
    exact ⟨_, h2, hl, fun j t ht => by have := hr j t ht; rw [Nat.zero_add] at this; exact this⟩
theorem live_parse1 (W : World) (a : Option Addr) (c : Nat) (hs : Src W a (4 + lw1.size) c (bcells (pkL lw1.data.toList))) :
    Calls Try.prog 14 #[(Value.agg (acells lwS).toArray), .slice a (4 + lw1.size) c] W fun e w' => ∃ g c t, e = .returned (.tuple #[.slice (some ⟨g, 0, none⟩) 1 c, .int .i64 0]) ∧ t.seq = 5 ∧ t.intv = 100 ∧ g < w'.heap.size ∧ w'.rangeAt g 0 (tcells t) ∧ Below W.heap.size W w' := by
  refine (parse_any lwS a _ c _ W hs (by decide)).mono ?_
  rintro e w' ⟨a, c, ts, rfl, hk, _, ht, hb⟩
  have h := lw1_k
  rw [← hk, List.map_map] at h
  rw [lw1_e]
  match ts, h, ht with
  | [], h, _ => simp at h
  | [t], h, ht =>
    simp [Tl.key] at h
    obtain ⟨g, rfl, hg, hr⟩ := ht.at0 (by simp)
    exact ⟨g, c, t, rfl, h.1, h.2, hg, hr 0 t rfl, hb⟩
  | _ :: _ :: _, h, _ => simp at h
structure Lw (t : Tl) : Prop where
  ty : t.ty = 8
  nonce : t.nonce = 0
  rx : t.rx = 0
  hops : t.hops = 0
  uni : t.uni = false
  st : t.st = []
  all : t.all = false
  met : t.met = 32
  id : t.id = lwI
  ad : t.ad = lwA
  pr : t.pr.d = lwP
  chk : chkQ t.pr = 0
theorem live_parse2 (W : World) (a : Option Addr) (c : Nat) (hs : Src W a (4 + lw2.size) c (bcells (pkL lw2.data.toList))) :
    Calls Try.prog 14 #[(Value.agg (acells lwS).toArray), .slice a (4 + lw2.size) c] W fun e w' => ∃ g c u, e = .returned (.tuple #[.slice (some ⟨g, 0, none⟩) 2 c, .int .i64 0]) ∧ Lw u ∧ g < w'.heap.size ∧ w'.rangeAt g 68 (tcells u) ∧ TSrc w' u ∧ Below W.heap.size W w' := by
  refine (parse_any lwS a _ c _ W hs (by decide)).mono ?_
  rintro e w' ⟨a, c, ts, rfl, hk, _, ht, hb⟩
  have h := lw2_k
  have g := lw2_i
  rw [← hk, List.map_map] at h g
  rw [lw2_e]
  match ts, h, g, ht with
  | [], h, _, _ => simp at h
  | [_], h, _, _ => simp at h
  | [t, u], h, g, ht =>
    simp [Tl.key] at h g
    obtain ⟨_, h0, h1, h2, h3, h4, h5, h6, h7⟩ := h
    obtain ⟨g1, g2, g3, g4, g5⟩ := g
    obtain ⟨g, rfl, hg, hr⟩ := ht.at0 (by simp)
    refine ⟨g, c, u, rfl, ⟨h0, h1, h2, h3, h4, h5, h6, h7, Id8.ext g1, Ad.ext g2, ?_, g5⟩, hg, hr 1 u rfl, ht.tlw.stms u (by simp), hb⟩
    have : u.pr.d.a = lwP.a := Ad.ext g3
    have e2 : u.pr.d.n = lwP.n := g4
    revert this e2
    generalize u.pr.d = d
    obtain ⟨da, dn⟩ := d
    rintro rfl rfl
    rfl
  | _ :: _ :: _ :: _, h, _, _ => simp at h
theorem live_check (u : Tl) (h : Lw u) (W : World) (hs : TSrc W u) : Calls Try.prog 10 #[.agg (tcells u).toArray] W fun e w' => e = .returned (.int .i64 0) ∧ Below W.heap.size W w' :=
  check_8 u W hs h.ty h.nonce h.rx h.hops h.uni h.st h.all (by rw [h.met]; decide) (by rw [h.id]; rfl) h.chk
theorem num6 (x : Int) (w : World) : Calls Try.prog 9 #[.int .i64 x] w fun e w' => e = .returned (.int .i64 x) ∧ w = w' := by
  go_enter Try.func9, Try.ntmps9
  go_wp2
  go_ret
  exact ⟨rfl, rfl⟩
end Go.Proofs.Ytognnfknbkedgaa
