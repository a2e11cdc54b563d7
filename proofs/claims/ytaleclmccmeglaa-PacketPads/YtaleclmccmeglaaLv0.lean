/-
  Check of an update below Infinity; what Parse tells of the two packets of live.
-/
import Derived.Test.YtaleclmccmeglaaUn8
import Derived.Test.YtaleclmccmeglaaFu
import Derived.Test.YtaleclmccmeglaaSms
import Derived.Test.YtaleclmccmeglaaWr
namespace Go.Proofs.Ytaleclmccmeglaa
open Go.RowKit
set_option linter.unusedSimpArgs false
set_option maxRecDepth 20000

/-- Check takes a Tlv of which these hold. -/
theorem check_of (t r : Tl) (w : World) (hr : TSrc w r) (hrk : r.key = { zeroK with ty := t.ty }) (hrn : r.sn ≤ 100000)
    (hUn : ∀ W, Calls Try.prog 26 #[.agg (tcells t).toArray] W fun e w' => e = .returned (.tuple #[.agg (tcells r).toArray, .bool true]) ∧ Below W.heap.size W w')
    (hF : ∀ W, Calls Try.prog 27 #[.agg (tcells t).toArray] W fun e w' => e = .returned (.bool true) ∧ Below W.heap.size W w') (hq : chkQ t.pr = 0) :
    Calls Try.prog 13 #[.agg (tcells t).toArray] w fun e w' => e = .returned (.int .i64 0) ∧ Below w.heap.size w w' := by
  have HQ := checkQ_any t.pr
  rw [hq] at HQ
  have HS : Hid (∀ W, Below w.heap.size w W → Calls Try.prog 15 #[.agg (tcells r).toArray, .agg (tcells { zeroT with ty := t.ty }).toArray] W fun e w' => e = .returned (.bool true) ∧ Below W.heap.size W w') := fun W hW => psame_true r _ W (Src.below hr hW (Src.lt hr)) (Src.nil _) hrk hrn
  have RT := Row.new w 44 (tcells t)
  clear hrk hrn hq hr
  generalize hty : t.ty = y at *
  have HTY : Hid (t.ty = y) := hty
  clear hty
  go_enter Try.func13, Try.ntmps13
  go_wp2_with (first
    | (go_at_call 28; have kk := hb4; refine (HQ _).mono ?_; rintro e w5 ⟨rfl, hb5⟩)
    | (have kk := hb4; refine ldQ (.tmp 25) (by rfl) rfl _ _ t.pr rfl (rT4.rPr) ?_)
    | (go_at_call 27; have kk := hb3; refine (hF _).mono ?_; rintro e w4 ⟨rfl, hb4⟩; have rT4 := rT3.below hb4 rT3.lt)
    | (have kk := hb3; refine ldT (.tmp 1) (by rfl) rfl w.heap.size t rfl rT3 ?_)
    | (go_at_call 15; have kk := rC; refine (HS.out _ bC).mono ?_; rintro e w3 ⟨rfl, hb3⟩; have rT3 := rTC.below hb3 rTC.lt)
    | (have kk := rC; refine ldT (.tmp 3) (by rfl) rfl gA r rfl rC ?_)
    | (have kk := rA; refine stT (.tmp 3) (.tmp 8) (by rfl) rfl gA r _ rfl rfl rA ?_; intro wC hgC rC; have rTC := (rT1.below a3 rT1.lt).grown hgC (fun e => by have := Option.some.inj e; have := rT1.lt; omega); have bC := (bt b1 a3).grown hgC (bt b1 a3).size (fun k hk => by cases hk; exact Nat.le_trans b1.size a1); have c0 : wC.cell? ⟨w.heap.size, 0, none⟩ = some (.int .u8 (y : Int)) := (by have := rTC.cell 0; rw [this]; show some (Value.int .u8 (t.ty : Int)) = _; rw [HTY.out]))
    | (have kk := hb1; refine alG infoTz (by rfl) rfl ?_; intro gA wA a1 a2 a3 rA)
    | (go_at_call 26; refine (hUn _).mono ?_; rintro e w1 ⟨rfl, hb1⟩; have rT1 := RT.below hb1 RT.lt; have b1 := bt (ba w (.cells (tcells t).toArray 44)) hb1)
    | (refine ldT (.tmp 1) (by rfl) rfl w.heap.size t rfl RT ?_))
  go_ret
  exact ⟨rfl, bt (bt (bt bC hb3) hb4) hb5⟩

theorem check_8 (t : Tl) (w : World) (ht : TSrc w t) (hy : t.ty = 8) (hn : t.nonce = 0) (hr : t.rx = 0) (hh : t.hops = 0) (hu : t.uni = false) (hs : t.st = []) (hall : t.all = false) (hmet : t.met ≠ 65535) (hnob : nobB t.id = false) (hq : chkQ t.pr = 0) :
    Calls Try.prog 13 #[.agg (tcells t).toArray] w fun e w' => e = .returned (.int .i64 0) ∧ Below w.heap.size w w' := by
  have hl : t.sn = 0 := by have := TSrc.len ht; rw [hs] at this; exact this
  refine check_of t { t8 t with pr := zeroQ, id := zeroI, ad := zeroA } w ?_ ?_ ?_ (fun W => unnamed_8 t W hy) (fun W => fits_8 t W hy (fun W => fitsU_fin t W hall hmet hnob)) hq
  · rw [t8_def]; exact ht
  · rw [t8_def]
    obtain ⟨ty, no, iv, sq, rx, me, ho, un, al, id, ad, pr, sa, sn, sc, st⟩ := t
    simp only at hy hn hr hh hu hs
    subst hn hr hh hu hs
    rfl
  · rw [t8_def]; show t.sn ≤ _; omega
def lwS : Ad := ⟨[254, 128, 0, 0, 0, 0, 0, 0, 0, 0, 0, 0, 0, 0, 0, 1], rfl⟩
def lwP : Pf := ⟨⟨[0, 0, 0, 0, 0, 0, 0, 0, 0, 0, 255, 255, 10, 1, 3, 0], rfl⟩, 120⟩
def lwI : Id8 := ⟨[97, 98, 99, 100, 101, 102, 103, 104], rfl⟩
def lwA : Ad := ⟨[0, 0, 0, 0, 0, 0, 0, 0, 0, 0, 255, 255, 10, 0, 0, 9], rfl⟩
def lw1 : ByteArray := ⟨#[4, 6, 0, 0, 0, 5, 0, 100]⟩
def lw2 : ByteArray := ⟨#[6, 10, 0, 0, 97, 98, 99, 100, 101, 102, 103, 104, 7, 6, 1, 0, 10, 0, 0, 9, 8, 13, 1, 128, 24, 0, 0, 100, 0, 1, 0, 32, 10, 1, 2, 8, 11, 1, 0, 24, 2, 0, 100, 0, 1, 0, 32, 3]⟩
theorem lw1_e : parE (pkL lw1.data.toList) = 0 := by kernel_rfl
theorem lw2_e : parE (pkL lw2.data.toList) = 0 := by kernel_rfl
theorem lw1_k : (parL lwS (pkL lw1.data.toList)).map (fun k => (k.seq, k.intv)) = [(5, 100)] := by kernel_rfl
theorem lw2_k : (parL lwS (pkL lw2.data.toList)).map (fun k => (k.ty, k.nonce, k.rx, k.hops, k.uni, k.st, k.all, k.met)) = [(8, 0, 0, 0, false, [], false, 32), (8, 0, 0, 0, false, [], false, 32)] := by kernel_rfl
theorem lw2_i : ((parL lwS (pkL lw2.data.toList)).map (fun k => (k.id.l, k.ad.l, k.pr.d.a.l, k.pr.d.n, chkQ k.pr)))[1]? = some (lwI.l, lwA.l, lwP.a.l, 120, 0) := by kernel_rfl

theorem Tls.at0 {B : Nat} {w : World} {a : Option Addr} {c : Nat} {ts : List Tl} (h : Tls B w a c ts) (hne : ts ≠ []) : ∃ g, a = some ⟨g, 0, none⟩ ∧ g < w.heap.size ∧ ∀ j t, ts[j]? = some t → w.rangeAt g (j * 68) (tcells t) := by
  obtain ⟨g', o', e, hl, hr⟩ := h.tlw.place hne
  rcases h.own.2 with ⟨h1, h2⟩ | ⟨g, cap, cur, h1, _⟩
  · rw [e] at h1; cases h1
  · injection h1 with h2 _ _
    rw [h2] at e
    cases e
    exact ⟨_, h2, hl, fun j t ht => by have := hr j t ht; rw [Nat.zero_add] at this; exact this⟩
theorem live_parse1 (W : World) (a : Option Addr) (c : Nat) (hs : Src W a (4 + lw1.size) c (bcells (pkL lw1.data.toList))) :
    Calls Try.prog 9 #[(Value.agg (acells lwS).toArray), .slice a (4 + lw1.size) c] W fun e w' => ∃ g c t, e = .returned (.tuple #[.slice (some ⟨g, 0, none⟩) 1 c, .int .i64 0]) ∧ t.seq = 5 ∧ t.intv = 100 ∧ g < w'.heap.size ∧ w'.rangeAt g 0 (tcells t) ∧ Below W.heap.size W w' := by
  refine (parse_any lwS a _ c _ W hs (by decide)).mono ?_
  rintro e w' ⟨a, c, ts, rfl, hk, _, ht, hb⟩
  have h := lw1_k
  rw [← hk, List.map_map] at h
  rw [lw1_e]
  match ts, h, ht with
  | [], h, _ => simp at h
  | [t], h, ht =>
    simp [Tl.key] at h
    obtain ⟨g, rfl, hg, hr⟩ := ht.at0 (by simp)
    exact ⟨g, c, t, rfl, h.1, h.2, hg, hr 0 t rfl, hb⟩
  | _ :: _ :: _, h, _ => simp at h
structure Lw (t : Tl) : Prop where
  ty : t.ty = 8
  nonce : t.nonce = 0
  rx : t.rx = 0
  hops : t.hops = 0
  uni : t.uni = false
  st : t.st = []
  all : t.all = false
  met : t.met = 32
  id : t.id = lwI
  ad : t.ad = lwA
  pr : t.pr.d = lwP
  chk : chkQ t.pr = 0
theorem live_parse2 (W : World) (a : Option Addr) (c : Nat) (hs : Src W a (4 + lw2.size) c (bcells (pkL lw2.data.toList))) :
    Calls Try.prog 9 #[(Value.agg (acells lwS).toArray), .slice a (4 + lw2.size) c] W fun e w' => ∃ g c u, e = .returned (.tuple #[.slice (some ⟨g, 0, none⟩) 2 c, .int .i64 0]) ∧ Lw u ∧ g < w'.heap.size ∧ w'.rangeAt g 68 (tcells u) ∧ TSrc w' u ∧ Below W.heap.size W w' := by
  refine (parse_any lwS a _ c _ W hs (by decide)).mono ?_
  rintro e w' ⟨a, c, ts, rfl, hk, _, ht, hb⟩
  have h := lw2_k
  have g := lw2_i
  rw [← hk, List.map_map] at h g
  rw [lw2_e]
  match ts, h, g, ht with
  | [], h, _, _ => simp at h
  | [_], h, _, _ => simp at h
  | [t, u], h, g, ht =>
    simp [Tl.key] at h g
    obtain ⟨_, h0, h1, h2, h3, h4, h5, h6, h7⟩ := h
    obtain ⟨g1, g2, g3, g4, g5⟩ := g
    obtain ⟨g, rfl, hg, hr⟩ := ht.at0 (by simp)
    refine ⟨g, c, u, rfl, ⟨h0, h1, h2, h3, h4, h5, h6, h7, Id8.ext g1, Ad.ext g2, ?_, g5⟩, hg, hr 1 u rfl, ht.tlw.stms u (by simp), hb⟩
    have : u.pr.d.a = lwP.a := Ad.ext g3
    have e2 : u.pr.d.n = lwP.n := g4
    revert this e2
    generalize u.pr.d = d
    obtain ⟨da, dn⟩ := d
    rintro rfl rfl
    rfl
  | _ :: _ :: _ :: _, h, _, _ => simp at h
theorem live_check (u : Tl) (h : Lw u) (W : World) (hs : TSrc W u) : Calls Try.prog 13 #[.agg (tcells u).toArray] W fun e w' => e = .returned (.int .i64 0) ∧ Below W.heap.size W w' :=
  check_8 u W hs h.ty h.nonce h.rx h.hops h.uni h.st h.all (by rw [h.met]; decide) (by rw [h.id]; rfl) h.chk
theorem num6 (x : Int) (w : World) : Calls Try.prog 12 #[.int .i64 x] w fun e w' => e = .returned (.int .i64 x) ∧ w = w' := by
  go_enter Try.func12, Try.ntmps12
  go_wp2
  go_ret
  exact ⟨rfl, rfl⟩
end Go.Proofs.Ytaleclmccmeglaa
