/-
  A packet under way: begin, take and packet of package pack.
-/
import Derived.Test.YtdibjgcokebfbaaGreatM15
import Derived.Test.YtdibjgcokebfbaaGreatM02
import Derived.Test.YtdibjgcokebfbaaGreatM06
import Derived.Test.YtdibjgcokebfbaaGreatM12
import Derived.Deep.QuietTactic
import Derived.BigQuiet
namespace Go.Proofs.YtdibjgcokebfbaaGreat
open Go.RowKit
set_option linter.unusedSimpArgs false
set_option maxRecDepth 20000

theorem with_any (o : TS) (t : Tl) (w : World) (ht : TSrc w t) (h : TOk t.key) : Calls Tryz.prog 49 #[.agg (ocells o).toArray, .agg (tcells t).toArray] w (Wid w o t.key) := by
  cases hway : wayB t.key
  · exact with_no o t w ht h hway
  · have hf := famP_or2 t.pr.d
    cases hrr : decide (o.r.l = t.id.l)
    · rcases hf with hf | hf
      · cases hh : (decide (o.h4.l = t.ad.l) && o.k4)
        · exact with_n4n o t w ht h hway hrr hf hh
        · exact with_n4e o t w ht h hway hrr hf hh
      · cases hh : (decide (o.h6.l = t.ad.l) && o.k6)
        · exact with_n6n o t w ht h hway hrr hf hh
        · exact with_n6e o t w ht h hway hrr hf hh
    · rcases hf with hf | hf
      · cases hh : (decide (o.h4.l = t.ad.l) && o.k4)
        · exact with_e4n o t w ht h hway hrr hf hh
        · exact with_e4e o t w ht h hway hrr hf hh
      · cases hh : (decide (o.h6.l = t.ad.l) && o.k6)
        · exact with_e6n o t w ht h hway hrr hf hh
        · exact with_e6e o t w ht h hway hrr hf hh
/-- A packet under way in memory of the call's own, from B on. -/
structure Dr (B : Nat) (W : World) (P : Nat) (d : DS) (a : Option Addr) (n c : Nat) (ps : List Pc) : Prop where
  row : Row W P 73 (dcells d.o d.room a n c)
  ge : B ≤ P
  own : W.ownsRow B 94 2 (.slice a n c) n (rcs ps)
  bods : Bods B W ps
  keys : keys ps = d.ps
theorem Dr.below {B : Nat} {W W' : World} {P : Nat} {d : DS} {a : Option Addr} {n c : Nat} {ps : List Pc} (h : Dr B W P d a n c ps) (hb : Below W.heap.size W W') : Dr B W' P d a n c ps :=
  ⟨h.row.below hb h.row.lt, h.ge, own_keep h.own (grownBy_below none hb) (.inr rfl), h.bods.below hb, h.keys⟩
theorem Dr.le {B B' : Nat} {W : World} {P : Nat} {d : DS} {a : Option Addr} {n c : Nat} {ps : List Pc} (h : Dr B W P d a n c ps) (hb : B' ≤ B) : Dr B' W P d a n c ps :=
  ⟨h.row, Nat.le_trans hb h.ge, own_le h.own hb, fun p hp => own_le (h.bods p hp) hb, h.keys⟩
theorem d42 {W : World} {P : Nat} {o : TS} {room : Int} {a : Option Addr} {n c : Nat} (h : Row W P 73 (dcells o room a n c)) : W.cell? ⟨P, 42, none⟩ = some (.int .i64 room) ∧ W.cell? ⟨P, 43, none⟩ = some (.slice a n c) := by
  constructor
  · rw [h.cell, dcells, List.getElem?_append_right (by rw [ocells_len]; omega), ocells_len]; rfl
  · rw [h.cell, dcells, List.getElem?_append_right (by rw [ocells_len]; omega), ocells_len]; rfl
theorem Row.dRoom {W : World} {P : Nat} {o : TS} {room : Int} {a : Option Addr} {n c : Nat} (h : Row W P 73 (dcells o room a n c)) (r : Int) : Row (W.setCell ⟨P, 42, none⟩ (.int .i64 r)) P 73 (dcells o r a n c) := by
  have := h.set 42 (.int .i64 r)
  rwa [dcells, List.set_append_right 42 _ (by rw [ocells_len]; omega), ocells_len] at this
theorem Row.dPs {W : World} {P : Nat} {o : TS} {room : Int} {a : Option Addr} {n c : Nat} (h : Row W P 73 (dcells o room a n c)) (a' : Option Addr) (n' c' : Nat) : Row (W.setCell ⟨P, 43, none⟩ (.slice a' n' c')) P 73 (dcells o room a' n' c') := by
  have := h.set 43 (.slice a' n' c')
  rwa [dcells, List.set_append_right 43 _ (by rw [ocells_len]; omega), ocells_len] at this
theorem place4 (w : World) : Calls Tryz.prog 45 #[.int .i64 4] w fun e w' => e = .returned (.int .i64 0) ∧ w = w' := place_any 4 w
theorem place6 (w : World) : Calls Tryz.prog 45 #[.int .i64 6] w fun e w' => e = .returned (.int .i64 1) ∧ w = w' := place_any 6 w
theorem begin7_any (src : Ad) (mtu : Int) (w : World) (h0 : 0 ≤ mtu) (h1 : mtu ≤ 65539) : Calls Tryz.prog 20 #[(Value.agg (acells src).toArray), .int .i64 mtu] w fun e w' => ∃ P, e = .returned (.pointer (some ⟨P, 0, none⟩)) ∧ Dr w.heap.size w' P (begD src mtu) none 0 0 [] ∧ Below w.heap.size w w' := by
  have HF := fam_any src
  have hf := famA_or src
  have HE : Hid (begO src = if famA src = 4 then ⟨zeroI, src, true, zeroA, false⟩ else ⟨zeroI, zeroA, false, src, true⟩) := (rfl : _ = _)
  have hm : IntKind.i64.wrap (mtu - 4) = mtu - 4 := IntWalk.i64_in _ (by omega)
  unfold begD
  rw [HE.out]
  generalize famA src = f at *
  have RA := (Row.new w 23 (acells src)).alloc (.cells (dcells zeroO (mtu - 4) none 0 0).toArray 73)
  have RD := two_newR w (.cells (acells src).toArray 23) 73 (dcells zeroO (mtu - 4) none 0 0)
  have BX := bt (ba w (.cells (acells src).toArray 23)) (ba _ (.cells (dcells zeroO (mtu - 4) none 0 0).toArray 73))
  clear HE h0 h1
  rcases hf with rfl | rfl
  all_goals
    go_enter Tryz.func20, Tryz.ntmps20
    go_wp2_with (refine bdG [(1, .tmp 7)] (by rfl) rfl ?rowb ?_; exact bdD _ _)
    refine name_world (R := fun W => Code.wp _ _ _ _ W) (P := fun W => Below w.heap.size w W ∧ Row W w.heap.size 23 (acells src) ∧ Row W (w.heap.size + 1) 73 (dcells zeroO (mtu - 4) none 0 0)) _ ⟨BX, RA, RD⟩ ?_
    rintro X ⟨hB, hR, hP⟩
    have rX := hR.below (bd X) hR.lt
    have pX := hP.below (bd X) hP.lt
    have bX := bt hB (bd X)
    clear hR hB hP BX RD RA
    refine wp_region_noPanic ?_
    refine wp_region_held_drew (S := fun W => Row W w.heap.size 23 (acells src)) (by kernel_rfl) (rX) (fun hHeld => ?_)
    refine tA 0 ?_
    refine tL 1 rfl (yA src (fun W hW => hW.range) (by rfl) rfl rfl) ?_
    refine tL 4 rfl (yA src (fun W hW => hW.range) (by rfl) rfl rfl) ?_
    refine tL 5 rfl (yB [(0, .tmp 14), (1, .const (.bool true))] (by rfl) rfl (bdH src)) ?_
    refine tA 6 ?_
    refine tA 7 ?_
    refine tA 8 ?_
    refine r1 2 fun K hK => ?_
    go_simp
    refine (HF _).mono ?_
    rintro e w2 ⟨rfl, d2⟩
    replace bX := bt bX d2
    replace rX := rX.below d2 rX.lt
    replace pX := pX.below d2 pX.lt
    refine oK hK (by exact rX) fun hHeld => ?_
    clear hK K
    refine r1 3 fun K hK => ?_
    go_simp
    first | refine (place4 _).mono ?_ | refine (place6 _).mono ?_
    rintro e w3 ⟨rfl, rfl⟩
    refine oK hK (by exact rX) fun hHeld => ?_
    clear hK K
    refine tA 9 ?_
    refine r1 10 fun K hK => ?_
    first | refine sStH (T := 73) (.tmp 19) (.tmp 15) (by rfl) rfl (w.heap.size + 1) 8 src true (icells zeroI) (hopc zeroA false) (hopc zeroA false ++ [.int .i64 (mtu - 4), .slice none 0 0]) (icells_len _) rfl rfl (hopc_len _ _) (by simpa [dcells, ocells, zeroO] using pX) ?_ | refine sStH (T := 73) (.tmp 19) (.tmp 15) (by rfl) rfl (w.heap.size + 1) 25 src true (icells zeroI ++ hopc zeroA false) (hopc zeroA false) [.int .i64 (mtu - 4), .slice none 0 0] (by rw [List.length_append, icells_len, hopc_len]) rfl rfl (hopc_len _ _) (by simpa [dcells, ocells, zeroO] using pX) ?_
    intro w10 hg10 r10
    refine oK hK (by exact rX.grown hg10 (by simp)) fun hHeld => ?_
    clear hK K
    refine dN ?_
    refine NoPanic.normal ?_
    go_wp2
    go_ret
    exact ⟨w.heap.size + 1, rfl, ⟨by simpa [dcells, ocells] using r10, Nat.le_succ _, World.ownsRow_nil _ _ _ _, (fun q hq => by cases hq), rfl⟩, bX.grown hg10 bX.size (fun k hk => by cases hk; exact Nat.le_succ _)⟩
/-! ### take -/
theorem own_at {W : World} {B : Nat} {a : Option Addr} {n c : Nat} {ps : List Pc} (h : W.ownsRow B 94 2 (.slice a n c) n (rcs ps)) (hne : ps ≠ []) : ∃ g, a = some ⟨g, 0, none⟩ ∧ ∀ j u, (rcs ps)[j]? = some u → W.cell? (Addr.add ⟨g, 0, none⟩ j) = some u := by
  have hl := h.1
  rw [rcs_len] at hl
  rcases h.2 with ⟨h1, h2⟩ | ⟨g, cap, cur, h1, hb, hh, hr⟩
  · subst h2
    exact absurd (List.eq_nil_of_length_eq_zero (by omega)) hne
  · injection h1 with h2 h3 h4
    subst h2
    exact ⟨g, rfl, fun j u hu => h.cells rfl j u hu⟩
section
variable {ops : Array Oper} {rest : List Oper} {op : Oper} {a : Act} {w : World} {Q : Exit → Act → World → Prop}
/-- Pieces behind pieces. -/
theorem append_raws (hgd : op.guard = none) (s x : Operand)
    (ho : op.op = .call { callee := .builtin .append, args := #[s, x], argTypes := #[71, 71] })
    (base : Nat) (v : Value) (n : Nat) (ps : List Pc) (hs : a.eval s = v) (hown : w.ownsRow base 94 2 v n (rcs ps))
    (ad : Addr) (m c : Nat) (qs : List Pc) (hx : a.eval x = .slice (some ad) m c) (hq : ∀ j u, (rcs qs)[j]? = some u → w.cell? (ad.add j) = some u) (hl : qs.length = m)
    (hbytes : n + m ≤ 4000000000000) (hbase : base ≤ w.heap.size)
    (h : ∀ v' w', w'.ownsRow base 94 2 v' (n + m) (rcs (ps ++ qs)) → w.grownBy w' v.ownBlock → wpList Tryz.prog ops Q rest (a.put op.dst v') w') : wpList Tryz.prog ops Q (op :: rest) a w := by
  obtain ⟨i0, hi, hz0, hz1, hz2⟩ := info_parts infoR3
  exact wpList_append_own w hgd s x 71 ho base 94 i0 (.agg #[.int .u8 0, .slice none 0 0]) 2 32 Tryz.underlying71 hi hz0 hz1 hz2 rfl (by decide) v n (rcs ps) hs hown ad m c (rcs qs) hx (by rw [rcs_len, hl]) hq (rcs_one qs) (by unfold maxLen; omega) (by omega) hbase (fun v' w' h1 h2 _ => h v' w' (by rw [rcs_append]; exact h1) h2)
end
theorem lenQ_keys (ps : List Pc) (W : World) (B : Nat) (h : Bods B W ps) : lenQ ps = lenP (keys ps) := by
  unfold lenQ lenP keys
  rw [List.map_map]
  congr 1
  refine List.map_congr_left fun p hp => ?_
  have := (own_srcP (h p hp)).blen
  simp [this]
/-- What take turns: the packet's own block, and the row of its pieces. -/
def Fr (w w' : World) (P : Nat) (o : Option Nat) : Prop := ∃ w1 w2 w3, Below w.heap.size w w1 ∧ w1.grownBy w2 (some P) ∧ w2.grownBy w3 o ∧ w3.grownBy w' (some P)
theorem Fr.row {w w' : World} {B P : Nat} {d : DS} {a : Option Addr} {n c : Nat} {ps : List Pc} (hd : Dr B w P d a n c ps) (h : Fr w w' P (Value.slice a n c).ownBlock) {g : Nat} {T : TypeId} {cs : List Value} (hr : Row w g T cs) (h1 : T ≠ 73) (h2 : T ≠ 94) : Row w' g T cs := by
  obtain ⟨w1, w2, w3, b1, g1, g2, g3⟩ := h
  have d1 := hd.below b1
  have o2 := own_keep d1.own g1 (.inl fun e => own_ne d1.own d1.row (by decide) e.symm)
  have hg := hr.ne hd.row h1
  have r1 := hr.below b1 hr.lt
  have r2 := r1.grown g1 (fun e => hg (Option.some.inj e))
  exact (r2.grown g2 (own_ne o2 r2 h2)).grown g3 (fun e => hg (Option.some.inj e))
theorem Fr.own {w w' : World} {B P : Nat} {d : DS} {a : Option Addr} {n c : Nat} {ps : List Pc} (hd : Dr B w P d a n c ps) (h : Fr w w' P (Value.slice a n c).ownBlock) {B' m s : Nat} {T : TypeId} {v : Value} {xs : List Value} (ho : w.ownsRow B' T s v m xs) (h1 : T ≠ 73) (h2 : T ≠ 94) : w'.ownsRow B' T s v m xs := by
  obtain ⟨w1, w2, w3, b1, g1, g2, g3⟩ := h
  have d1 := hd.below b1
  have o2 := own_keep d1.own g1 (.inl fun e => own_ne d1.own d1.row (by decide) e.symm)
  have k1 := own_keep ho (grownBy_below none b1) (.inr rfl)
  have hne : v.ownBlock ≠ some P := fun e => own_ne k1 d1.row (fun e => h1 e.symm) e.symm
  have k2 := own_keep k1 g1 (.inl hne)
  have k3 := own_keep k2 g2 (own_apart k2 o2 h2)
  exact own_keep k3 g3 (.inl hne)
theorem Fr.bel {w0 w w' : World} {P : Nat} {d : DS} {a : Option Addr} {n c : Nat} {ps : List Pc} (hd : Dr w0.heap.size w P d a n c ps) (h : Fr w w' P (Value.slice a n c).ownBlock) (hb : Below w0.heap.size w0 w) : Below w0.heap.size w0 w' := by
  obtain ⟨w1, w2, w3, b1, g1, g2, g3⟩ := h
  have k1 := bt hb b1
  have k2 := k1.grown g1 k1.size (fun k hk => by cases hk; exact hd.ge)
  have k3 := k2.grown g2 k2.size (fun k hk => (hd.own.lt k hk).1)
  exact k3.grown g3 k3.size (fun k hk => by cases hk; exact hd.ge)
theorem lenQ_ge (ps : List Pc) : ps.length ≤ lenQ ps := by
  induction ps with
  | nil => simp [lenQ]
  | cons p ps ih => simp [lenQ] at *; omega
/-- What take answers where there is no room, and where there is. -/
theorem witP_ne (o : TS) (k : TK) : witP o k ≠ [] := by unfold witP; simp
end Go.Proofs.YtdibjgcokebfbaaGreat

namespace Go.Proofs.YtdibjgcokebfbaaGreat
open Go.RowKit
set_option linter.unusedSimpArgs false
set_option maxRecDepth 20000

theorem bods_taken {B P P' : Nat} {w w20 w21 w30 w31 : World} {ps qs rs : List Pc} {v : Value} {n : Nat} {cs ds : List Value} (B20 : Below w.heap.size w w20) (hB : B ≤ w.heap.size) (h1 : Bods B w ps) (h2 : Bods w.heap.size w20 qs) (r20 : Row w20 P 73 cs) (G1 : w20.grownBy w21 (some P)) (o21 : w21.ownsRow B 94 2 v n (rcs rs)) (G2 : w21.grownBy w30 v.ownBlock) (r30 : Row w30 P' 73 ds) (G3 : w30.grownBy w31 (some P')) : Bods B w31 (ps ++ qs) := by
  have k : Bods B w20 (ps ++ qs) := fun p hp => by
    rcases List.mem_append.1 hp with h | h
    · exact (h1.below B20) p h
    · exact own_le (h2 p h) hB
  have k1 := k.told G1 r20 (by decide)
  have k2 : Bods B w30 (ps ++ qs) := k1.keep G2 (fun p hp => own_apart (k1 p hp) o21 (by decide))
  exact k2.told G3 r30 (by decide)
set_option maxHeartbeats 8000000 in
theorem take_no7 (B : Nat) (t : Tl) (w : World) (P : Nat) (d : DS) (a : Option Addr) (n c : Nat) (ps : List Pc) (hd : Dr B w P d a n c ps) (ht : TSrc w t) (h : TOk t.key) (hN : lenP (witP d.o t.key) ≤ 1000) (hb : takB d t.key = false) :
    Calls Tryz.prog 22 #[.pointer (some ⟨P, 0, none⟩), .agg (tcells t).toArray] w fun e w' => e = .returned (.bool false) ∧ Below w.heap.size w w' := by
  obtain ⟨ow, how⟩ : ∃ o, witS d.o t.key = o := ⟨_, rfl⟩
  obtain ⟨wp, hwp⟩ : ∃ o, witP d.o t.key = o := ⟨_, rfl⟩
  have HWI : Hid (∀ W, Below w.heap.size w W → Calls Tryz.prog 49 #[.agg (ocells d.o).toArray, .agg (tcells t).toArray] W fun e w' => ∃ a n c ps, e = .returned (.tuple #[.slice a n c, .agg (ocells ow).toArray]) ∧ keys ps = wp ∧ w'.ownsRow W.heap.size 94 2 (.slice a n c) n (rcs ps) ∧ Bods W.heap.size w' ps ∧ Below W.heap.size W w') := fun W hW => by
    rw [← how, ← hwp]
    exact with_any d.o t W (Src.below ht hW (Src.lt ht)) h
  obtain ⟨L, hL⟩ : ∃ L, lenP (witP d.o t.key) = L := ⟨_, rfl⟩
  have HLE : Hid (∀ W W0 ps', Below W0.heap.size W0 W → keys ps' = wp → Bods W0.heap.size W ps' → Bods W0.heap.size W ps' ∧ lenQ ps' = L ∧ lenQ ps' ≤ 1000 ∧ ps' ≠ []) := fun W W0 ps' _ hk hb' => by
    refine ⟨hb', ?_, ?_, ?_⟩
    · rw [lenQ_keys ps' W _ hb', hk, ← hwp, hL]
    · rw [lenQ_keys ps' W _ hb', hk, ← hwp]; exact hN
    · rintro rfl; exact witP_ne d.o t.key (hwp.trans hk.symm)
  rw [hL] at hN
  have RP := hd.row.alloc (.cells (tcells t).toArray 45)
  have RT := Row.new w 45 (tcells t)
  have hPl := hd.row.lt
  obtain ⟨rm, hrm0⟩ : ∃ r, d.room = r := ⟨_, rfl⟩
  have hlt : rm < (L : Int) := by rw [← hrm0, ← hL]; unfold takB at hb; simpa using hb
  have hqq : Hid (keys ps = d.ps) := hd.keys
  clear hb hL how hwp ht h
  go_enter Tryz.func22, Tryz.ntmps22
  go_wp2
  refine name_world (R := fun W => Code.wp _ _ _ _ W) (P := fun W => Below w.heap.size w W ∧ Row W w.heap.size 45 (tcells t) ∧ Row W P 73 (dcells d.o d.room a n c)) _ ⟨ba _ _, RT, RP⟩ ?_
  rintro X ⟨hB0, hR, hP⟩
  have rT := hR.below (bd X) hR.lt
  have rP := hP.below (bd X) hP.lt
  have bX := bt hB0 (bd X)
  clear hR hB0 hP RT RP
  refine wp_region_noPanic ?_
  refine wp_region_held_drew (S := fun W => Row W w.heap.size 45 (tcells t) ∧ Row W P 73 (dcells d.o d.room a n c)) (by kernel_rfl) (⟨rT, rP⟩) (fun hHeld => ?_)
  refine tA 0 ?_
  refine tA 1 ?_
  refine tA 2 ?_
  refine tL 3 rfl (yO d.o (fun W hW => rangeAt_left hW.2.range) (by rfl) rfl rfl) ?_
  refine tL 4 rfl (yT t (fun W hW => hW.1) (by rfl) rfl rfl) ?_
  refine rM [5,9] ?_
  refine cL (fun K hK => ?_) ?_
  · skip
    go_simp
    refine (HWI.out _ bX).mono ?_
    rintro e w5 ⟨qa, qn, qc, qs, rfl, hqk, oq, bq, d5⟩
    replace oq := own_le oq bX.size
    replace bq : Bods w.heap.size _ qs := fun p hp => own_le (bq p hp) bX.size
    replace bX := bt bX d5
    replace rT := rT.below d5 rT.lt
    replace rP := rP.below d5 rP.lt
    try replace rG := rG.below d5 rG.lt
    clear d5
    refine oK hK (by exact ⟨rT, rP⟩) fun hHeld => ?_
    clear hK K
    refine tA 6 ?_
    refine tA 7 ?_
    refine tA 8 ?_
    refine r1 9 fun K hK => ?_
    refine sAlG infoOz (by rfl) rfl ?_
    intro gG w9 g1 g2 d9 rG
    have hgG := Nat.le_trans bX.size g1
    have hgT : gG ≠ w.heap.size := fun e => by have := rT.lt; omega
    have hgP : gG ≠ P := fun e => by have := rP.lt; omega
    try replace oq := own_keep oq (grownBy_below none d9) (.inr rfl)
    try replace bq := bq.below d9
    replace bX := bt bX d9
    replace rT := rT.below d9 rT.lt
    replace rP := rP.below d9 rP.lt
    clear d9 g1 g2
    refine oK hK (by exact ⟨rT, rP⟩) fun hHeld => ?_
    clear hK K
    refine tA 10 ?_
    refine r1 11 fun K hK => ?_
    refine sStO (.tmp 6) (.tmp 16) (by rfl) rfl gG ow (ocells zeroO) [] rfl rfl (ocells_len _) (by simpa using rG) ?_
    intro w11 hg11 r11
    replace oq := own_keep oq hg11 (.inl fun e => own_ne oq rG (by decide) e.symm)
    replace bq := bq.told hg11 rG (by decide)
    replace rT := rT.grown hg11 (fun e => hgT (Option.some.inj e).symm)
    replace rP := rP.grown hg11 (fun e => hgP (Option.some.inj e).symm)
    replace bX := bX.grown hg11 bX.size (fun k hk => by cases hk; exact hgG)
    replace rG : Row w11 gG 70 (ocells ow) := (by simpa using r11)
    obtain ⟨_, hq1', hq2', hq3'⟩ := HLE.out _ w qs bX hqk bq
    have hq1 : Hid (lenQ qs = L) := hq1'
    have hq2 : Hid (lenQ qs ≤ 1000) := hq2'
    have hq3 : Hid (qs ≠ []) := hq3'
    have HQ : Hid (∀ W, Below w11.heap.size w11 W → Rws W qa qn qs) := fun W hW => (own_rws oq bq).below hW
    have hqn : Hid (qn = qs.length) := (own_rws oq bq).len.symm
    have hqn2 : qn ≤ 1000 := (by have := hqn.out; have := lenQ_ge qs; have := hq2.out; omega)
    clear hq1' hq2' hq3'
    refine oK hK (by exact ⟨rT, rP⟩) fun hHeld => ?_
    clear hK K
    refine dN ?_
    refine NoPanic.normal ?_
    clear hHeld
    have c42 := (d42 rP).1
    rw [hrm0] at c42
    clear hd hPl oq bq hqk HLE HWI rT rG hg11 r11 hgG hgT hgP hq3 hrm0 hqq
    have hPw := rP.lt
    go_wp2_with (go_at_call 38; refine (length_any qa qn qc qs _ (HQ.out _ (Below.refl _ _)) (by omega) (by have := hq2.out; omega)).mono ?_; rintro e w20 ⟨rfl, b20⟩; rw [hq1.out]; replace c42 := (b20.cell (p := ⟨P, 42, none⟩) hPw).trans c42)
    go_ret
    exact ⟨rfl, bt bX b20⟩
  refine cE fun K hK => ?_
  refine sAlG infoOz (by rfl) rfl ?_
  intro gG w9 g1 g2 d9 rG
  have hgG := Nat.le_trans bX.size g1
  have hgT : gG ≠ w.heap.size := fun e => by have := rT.lt; omega
  have hgP : gG ≠ P := fun e => by have := rP.lt; omega
  try replace oq := own_keep oq (grownBy_below none d9) (.inr rfl)
  try replace bq := bq.below d9
  replace bX := bt bX d9
  replace rT := rT.below d9 rT.lt
  replace rP := rP.below d9 rP.lt
  clear d9 g1 g2
  refine oK hK (by exact ⟨rT, rP⟩) fun hHeld => ?_
  clear hK K
  refine r1 5 fun K hK => ?_
  go_simp
  refine (HWI.out _ bX).mono ?_
  rintro e w5 ⟨qa, qn, qc, qs, rfl, hqk, oq, bq, d5⟩
  replace oq := own_le oq bX.size
  replace bq : Bods w.heap.size _ qs := fun p hp => own_le (bq p hp) bX.size
  replace bX := bt bX d5
  replace rT := rT.below d5 rT.lt
  replace rP := rP.below d5 rP.lt
  try replace rG := rG.below d5 rG.lt
  clear d5
  refine oK hK (by exact ⟨rT, rP⟩) fun hHeld => ?_
  clear hK K
  refine tA 6 ?_
  refine tA 7 ?_
  refine tA 8 ?_
  refine tA 10 ?_
  refine r1 11 fun K hK => ?_
  refine sStO (.tmp 6) (.tmp 16) (by rfl) rfl gG ow (ocells zeroO) [] rfl rfl (ocells_len _) (by simpa using rG) ?_
  intro w11 hg11 r11
  replace oq := own_keep oq hg11 (.inl fun e => own_ne oq rG (by decide) e.symm)
  replace bq := bq.told hg11 rG (by decide)
  replace rT := rT.grown hg11 (fun e => hgT (Option.some.inj e).symm)
  replace rP := rP.grown hg11 (fun e => hgP (Option.some.inj e).symm)
  replace bX := bX.grown hg11 bX.size (fun k hk => by cases hk; exact hgG)
  replace rG : Row w11 gG 70 (ocells ow) := (by simpa using r11)
  obtain ⟨_, hq1', hq2', hq3'⟩ := HLE.out _ w qs bX hqk bq
  have hq1 : Hid (lenQ qs = L) := hq1'
  have hq2 : Hid (lenQ qs ≤ 1000) := hq2'
  have hq3 : Hid (qs ≠ []) := hq3'
  have HQ : Hid (∀ W, Below w11.heap.size w11 W → Rws W qa qn qs) := fun W hW => (own_rws oq bq).below hW
  have hqn : Hid (qn = qs.length) := (own_rws oq bq).len.symm
  have hqn2 : qn ≤ 1000 := (by have := hqn.out; have := lenQ_ge qs; have := hq2.out; omega)
  clear hq1' hq2' hq3'
  refine oK hK (by exact ⟨rT, rP⟩) fun hHeld => ?_
  clear hK K
  refine dN ?_
  refine NoPanic.normal ?_
  clear hHeld
  have c42 := (d42 rP).1
  rw [hrm0] at c42
  clear hd hPl oq bq hqk HLE HWI rT rG hg11 r11 hgG hgT hgP hq3 hrm0 hqq
  have hPw := rP.lt
  go_wp2_with (go_at_call 38; refine (length_any qa qn qc qs _ (HQ.out _ (Below.refl _ _)) (by omega) (by have := hq2.out; omega)).mono ?_; rintro e w20 ⟨rfl, b20⟩; rw [hq1.out]; replace c42 := (b20.cell (p := ⟨P, 42, none⟩) hPw).trans c42)
  go_ret
  exact ⟨rfl, bt bX b20⟩
set_option maxHeartbeats 8000000 in
theorem take_yes7 (B : Nat) (t : Tl) (w : World) (P : Nat) (d : DS) (a : Option Addr) (n c : Nat) (ps : List Pc) (hd : Dr B w P d a n c ps) (ht : TSrc w t) (h : TOk t.key) (hN : lenP (witP d.o t.key) ≤ 1000) (hb : takB d t.key = true) (hB : B ≤ w.heap.size) (hn : n ≤ 100000) (hrm : d.room ≤ 70000) :
    Calls Tryz.prog 22 #[.pointer (some ⟨P, 0, none⟩), .agg (tcells t).toArray] w fun e w' => e = .returned (.bool true) ∧ (∃ a' n' c' ps', Dr B w' P (takD d t.key) a' n' c' ps' ∧ n' ≤ n + 1000) ∧ Fr w w' P (Value.slice a n c).ownBlock := by
  obtain ⟨ow, how⟩ : ∃ o, witS d.o t.key = o := ⟨_, rfl⟩
  obtain ⟨wp, hwp⟩ : ∃ o, witP d.o t.key = o := ⟨_, rfl⟩
  have HWI : Hid (∀ W, Below w.heap.size w W → Calls Tryz.prog 49 #[.agg (ocells d.o).toArray, .agg (tcells t).toArray] W fun e w' => ∃ a n c ps, e = .returned (.tuple #[.slice a n c, .agg (ocells ow).toArray]) ∧ keys ps = wp ∧ w'.ownsRow W.heap.size 94 2 (.slice a n c) n (rcs ps) ∧ Bods W.heap.size w' ps ∧ Below W.heap.size W w') := fun W hW => by
    rw [← how, ← hwp]
    exact with_any d.o t W (Src.below ht hW (Src.lt ht)) h
  obtain ⟨L, hL⟩ : ∃ L, lenP (witP d.o t.key) = L := ⟨_, rfl⟩
  have HLE : Hid (∀ W W0 ps', Below W0.heap.size W0 W → keys ps' = wp → Bods W0.heap.size W ps' → Bods W0.heap.size W ps' ∧ lenQ ps' = L ∧ lenQ ps' ≤ 1000 ∧ ps' ≠ []) := fun W W0 ps' _ hk hb' => by
    refine ⟨hb', ?_, ?_, ?_⟩
    · rw [lenQ_keys ps' W _ hb', hk, ← hwp, hL]
    · rw [lenQ_keys ps' W _ hb', hk, ← hwp]; exact hN
    · rintro rfl; exact witP_ne d.o t.key (hwp.trans hk.symm)
  rw [hL] at hN
  have RP := hd.row.alloc (.cells (tcells t).toArray 45)
  have RT := Row.new w 45 (tcells t)
  have hPl := hd.row.lt
  obtain ⟨rm, hrm0⟩ : ∃ r, d.room = r := ⟨_, rfl⟩
  have hge : (L : Int) ≤ rm := by rw [← hrm0, ← hL]; unfold takB at hb; simpa using hb
  have hwr : IntKind.i64.wrap (rm - (L : Int)) = rm - (L : Int) := IntWalk.i64_in _ (by omega)
  have HTD : Hid (takD d t.key = ⟨ow, rm - (L : Int), d.ps ++ wp⟩) := by show _ = _; rw [← hrm0, ← hL, ← how, ← hwp]; rfl
  rw [HTD.out]
  clear HTD
  have hqq : Hid (keys ps = d.ps) := hd.keys
  clear hb hL how hwp ht h hrm
  go_enter Tryz.func22, Tryz.ntmps22
  go_wp2
  refine name_world (R := fun W => Code.wp _ _ _ _ W) (P := fun W => Below w.heap.size w W ∧ Row W w.heap.size 45 (tcells t) ∧ Row W P 73 (dcells d.o d.room a n c)) _ ⟨ba _ _, RT, RP⟩ ?_
  rintro X ⟨hB0, hR, hP⟩
  have rT := hR.below (bd X) hR.lt
  have rP := hP.below (bd X) hP.lt
  have bX := bt hB0 (bd X)
  clear hR hB0 hP RT RP
  refine wp_region_noPanic ?_
  refine wp_region_held_drew (S := fun W => Row W w.heap.size 45 (tcells t) ∧ Row W P 73 (dcells d.o d.room a n c)) (by kernel_rfl) (⟨rT, rP⟩) (fun hHeld => ?_)
  refine tA 0 ?_
  refine tA 1 ?_
  refine tA 2 ?_
  refine tL 3 rfl (yO d.o (fun W hW => rangeAt_left hW.2.range) (by rfl) rfl rfl) ?_
  refine tL 4 rfl (yT t (fun W hW => hW.1) (by rfl) rfl rfl) ?_
  refine rM [5,9] ?_
  refine cL (fun K hK => ?_) ?_
  · skip
    go_simp
    refine (HWI.out _ bX).mono ?_
    rintro e w5 ⟨qa, qn, qc, qs, rfl, hqk, oq, bq, d5⟩
    replace oq := own_le oq bX.size
    replace bq : Bods w.heap.size _ qs := fun p hp => own_le (bq p hp) bX.size
    replace bX := bt bX d5
    replace rT := rT.below d5 rT.lt
    replace rP := rP.below d5 rP.lt
    try replace rG := rG.below d5 rG.lt
    clear d5
    refine oK hK (by exact ⟨rT, rP⟩) fun hHeld => ?_
    clear hK K
    refine tA 6 ?_
    refine tA 7 ?_
    refine tA 8 ?_
    refine r1 9 fun K hK => ?_
    refine sAlG infoOz (by rfl) rfl ?_
    intro gG w9 g1 g2 d9 rG
    have hgG := Nat.le_trans bX.size g1
    have hgT : gG ≠ w.heap.size := fun e => by have := rT.lt; omega
    have hgP : gG ≠ P := fun e => by have := rP.lt; omega
    try replace oq := own_keep oq (grownBy_below none d9) (.inr rfl)
    try replace bq := bq.below d9
    replace bX := bt bX d9
    replace rT := rT.below d9 rT.lt
    replace rP := rP.below d9 rP.lt
    clear d9 g1 g2
    refine oK hK (by exact ⟨rT, rP⟩) fun hHeld => ?_
    clear hK K
    refine tA 10 ?_
    refine r1 11 fun K hK => ?_
    refine sStO (.tmp 6) (.tmp 16) (by rfl) rfl gG ow (ocells zeroO) [] rfl rfl (ocells_len _) (by simpa using rG) ?_
    intro w11 hg11 r11
    replace oq := own_keep oq hg11 (.inl fun e => own_ne oq rG (by decide) e.symm)
    replace bq := bq.told hg11 rG (by decide)
    replace rT := rT.grown hg11 (fun e => hgT (Option.some.inj e).symm)
    replace rP := rP.grown hg11 (fun e => hgP (Option.some.inj e).symm)
    replace bX := bX.grown hg11 bX.size (fun k hk => by cases hk; exact hgG)
    replace rG : Row w11 gG 70 (ocells ow) := (by simpa using r11)
    obtain ⟨_, hq1', hq2', hq3'⟩ := HLE.out _ w qs bX hqk bq
    have hq1 : Hid (lenQ qs = L) := hq1'
    have hq2 : Hid (lenQ qs ≤ 1000) := hq2'
    have hq3 : Hid (qs ≠ []) := hq3'
    have HQ : Hid (∀ W, Below w11.heap.size w11 W → Rws W qa qn qs) := fun W hW => (own_rws oq bq).below hW
    have hqn : Hid (qn = qs.length) := (own_rws oq bq).len.symm
    have hqn2 : qn ≤ 1000 := (by have := hqn.out; have := lenQ_ge qs; have := hq2.out; omega)
    clear hq1' hq2' hq3'
    refine oK hK (by exact ⟨rT, rP⟩) fun hHeld => ?_
    clear hK K
    refine dN ?_
    refine NoPanic.normal ?_
    clear hHeld
    have HD : Hid (Dr B w P d a n c ps) := hd
    have HG : Hid (Row w11 gG 70 (ocells ow)) := rG
    have HO : Hid (w11.ownsRow w.heap.size 94 2 (.slice qa qn qc) qn (rcs qs)) := oq
    have HBq : Hid (Bods w.heap.size w11 qs) := bq
    have HKq : Hid (keys qs = wp) := hqk
    have HRm : Hid (d.room = rm) := hrm0
    have c42 := (d42 rP).1
    rw [hrm0] at c42
    have hPw := rP.lt
    clear hd hPl oq bq hqk HLE HWI rT rG hg11 r11 hgG hgT hgP hrm0 hqq rP
    go_wp2_with (first
      | (at_builtin; have kk := r21; refine append_raws rfl (.tmp 41) (.tmp 42) rfl B (.slice a n c) n ps rfl T4.out.1 ⟨gq, 0, none⟩ qn qc qs rfl T4.out.2 hqn.out.symm (by omega) (by have := hg21.size; have := B20.size; simp only [World.size_setCell]; omega) ?_; intro v30 w30 own30 hg30; obtain ⟨a30, c30, rfl⟩ := own_shape2 own30; have r30 := rR.grown hg30 (own_ne T4.out.1 rR (by decide)); have c43' := (d42 r30).2; have f43' := r30.frozen 43)
      | (have kk := b20; refine stO (T := 73) (.tmp 28) (.tmp 26) (by rfl) rfl P ow (ocells d.o) [.int .i64 d.room, .slice a n c] rfl rfl (ocells_len _) (by exact r20) ?_; intro w21 hg21 r21'; have r21 : Row w21 P 73 (dcells ow rm a n c) := (by have := r21'; rw [HRm.out] at this; exact this); clear r21'; have c42' := (d42 r21).1; have c43a := (d42 r21).2; have f42' := r21.frozen 42; have rR := r21.dRoom (rm - (L : Int)); have G1 := grownBy_trans hg21 (grownBy_setCell w21 P 42 (.int .i64 (rm - (L : Int)))); have oq21 := own_keep oq20 G1 (.inl fun e => own_ne oq20 r20 (by decide) e.symm); obtain ⟨gq, rfl, hqc⟩ := own_at oq21 hq3.out; have T4 : Hid ((w21.setCell ⟨P, 42, none⟩ (.int .i64 (rm - (L : Int)))).ownsRow B 94 2 (.slice a n c) n (rcs ps) ∧ ∀ j u, (rcs qs)[j]? = some u → (w21.setCell ⟨P, 42, none⟩ (.int .i64 (rm - (L : Int)))).cell? (Addr.add ⟨gq, 0, none⟩ j) = some u) := ⟨own_keep o20 G1 (.inl fun e => own_ne o20 r20 (by decide) e.symm), hqc⟩; have HQ21 : Hid ((w21.setCell ⟨P, 42, none⟩ (.int .i64 (rm - (L : Int)))).ownsRow w.heap.size 94 2 (.slice (some ⟨gq, 0, none⟩) qn qc) qn (rcs qs)) := oq21; clear hqc oq21)
      | (have kk := b20; refine ldO (.tmp 6) (by rfl) rfl gG 0 ow rfl (HG.out.below b20 HG.out.lt).range ?_)
      | (go_at_call 38; refine (length_any qa qn qc qs _ (HQ.out _ (Below.refl _ _)) (by omega) (by have := hq2.out; omega)).mono ?_; rintro e w20 ⟨rfl, b20⟩; rw [hq1.out]; replace c42 := (b20.cell (p := ⟨P, 42, none⟩) hPw).trans c42; have B20 := bt bX b20; have r20 := HD.out.row.below B20 HD.out.row.lt; have o20 := own_keep HD.out.own (grownBy_below none B20) (.inr rfl); have oq20 := own_keep HO.out (grownBy_below none b20) (.inr rfl)))
    go_ret
    have G3 := grownBy_setCell w30 P 43 (.slice a30 (n + qn) c30)
    refine ⟨rfl, ⟨a30, n + qn, c30, ps ++ qs, ⟨r30.dPs a30 (n + qn) c30, HD.out.ge, own_keep own30 G3 (.inl fun e => own_ne own30 r30 (by decide) e.symm), ?_, ?_⟩, by omega⟩, w20, _, w30, B20, G1, hg30, G3⟩
    · exact bods_taken B20 hB HD.out.bods (HBq.out.below b20) r20 G1 T4.out.1 hg30 r30 G3
    · rw [keys_append, HD.out.keys, HKq.out]
  refine cE fun K hK => ?_
  refine sAlG infoOz (by rfl) rfl ?_
  intro gG w9 g1 g2 d9 rG
  have hgG := Nat.le_trans bX.size g1
  have hgT : gG ≠ w.heap.size := fun e => by have := rT.lt; omega
  have hgP : gG ≠ P := fun e => by have := rP.lt; omega
  try replace oq := own_keep oq (grownBy_below none d9) (.inr rfl)
  try replace bq := bq.below d9
  replace bX := bt bX d9
  replace rT := rT.below d9 rT.lt
  replace rP := rP.below d9 rP.lt
  clear d9 g1 g2
  refine oK hK (by exact ⟨rT, rP⟩) fun hHeld => ?_
  clear hK K
  refine r1 5 fun K hK => ?_
  go_simp
  refine (HWI.out _ bX).mono ?_
  rintro e w5 ⟨qa, qn, qc, qs, rfl, hqk, oq, bq, d5⟩
  replace oq := own_le oq bX.size
  replace bq : Bods w.heap.size _ qs := fun p hp => own_le (bq p hp) bX.size
  replace bX := bt bX d5
  replace rT := rT.below d5 rT.lt
  replace rP := rP.below d5 rP.lt
  try replace rG := rG.below d5 rG.lt
  clear d5
  refine oK hK (by exact ⟨rT, rP⟩) fun hHeld => ?_
  clear hK K
  refine tA 6 ?_
  refine tA 7 ?_
  refine tA 8 ?_
  refine tA 10 ?_
  refine r1 11 fun K hK => ?_
  refine sStO (.tmp 6) (.tmp 16) (by rfl) rfl gG ow (ocells zeroO) [] rfl rfl (ocells_len _) (by simpa using rG) ?_
  intro w11 hg11 r11
  replace oq := own_keep oq hg11 (.inl fun e => own_ne oq rG (by decide) e.symm)
  replace bq := bq.told hg11 rG (by decide)
  replace rT := rT.grown hg11 (fun e => hgT (Option.some.inj e).symm)
  replace rP := rP.grown hg11 (fun e => hgP (Option.some.inj e).symm)
  replace bX := bX.grown hg11 bX.size (fun k hk => by cases hk; exact hgG)
  replace rG : Row w11 gG 70 (ocells ow) := (by simpa using r11)
  obtain ⟨_, hq1', hq2', hq3'⟩ := HLE.out _ w qs bX hqk bq
  have hq1 : Hid (lenQ qs = L) := hq1'
  have hq2 : Hid (lenQ qs ≤ 1000) := hq2'
  have hq3 : Hid (qs ≠ []) := hq3'
  have HQ : Hid (∀ W, Below w11.heap.size w11 W → Rws W qa qn qs) := fun W hW => (own_rws oq bq).below hW
  have hqn : Hid (qn = qs.length) := (own_rws oq bq).len.symm
  have hqn2 : qn ≤ 1000 := (by have := hqn.out; have := lenQ_ge qs; have := hq2.out; omega)
  clear hq1' hq2' hq3'
  refine oK hK (by exact ⟨rT, rP⟩) fun hHeld => ?_
  clear hK K
  refine dN ?_
  refine NoPanic.normal ?_
  clear hHeld
  have HD : Hid (Dr B w P d a n c ps) := hd
  have HG : Hid (Row w11 gG 70 (ocells ow)) := rG
  have HO : Hid (w11.ownsRow w.heap.size 94 2 (.slice qa qn qc) qn (rcs qs)) := oq
  have HBq : Hid (Bods w.heap.size w11 qs) := bq
  have HKq : Hid (keys qs = wp) := hqk
  have HRm : Hid (d.room = rm) := hrm0
  have c42 := (d42 rP).1
  rw [hrm0] at c42
  have hPw := rP.lt
  clear hd hPl oq bq hqk HLE HWI rT rG hg11 r11 hgG hgT hgP hrm0 hqq rP
  go_wp2_with (first
    | (at_builtin; have kk := r21; refine append_raws rfl (.tmp 41) (.tmp 42) rfl B (.slice a n c) n ps rfl T4.out.1 ⟨gq, 0, none⟩ qn qc qs rfl T4.out.2 hqn.out.symm (by omega) (by have := hg21.size; have := B20.size; simp only [World.size_setCell]; omega) ?_; intro v30 w30 own30 hg30; obtain ⟨a30, c30, rfl⟩ := own_shape2 own30; have r30 := rR.grown hg30 (own_ne T4.out.1 rR (by decide)); have c43' := (d42 r30).2; have f43' := r30.frozen 43)
    | (have kk := b20; refine stO (T := 73) (.tmp 28) (.tmp 26) (by rfl) rfl P ow (ocells d.o) [.int .i64 d.room, .slice a n c] rfl rfl (ocells_len _) (by exact r20) ?_; intro w21 hg21 r21'; have r21 : Row w21 P 73 (dcells ow rm a n c) := (by have := r21'; rw [HRm.out] at this; exact this); clear r21'; have c42' := (d42 r21).1; have c43a := (d42 r21).2; have f42' := r21.frozen 42; have rR := r21.dRoom (rm - (L : Int)); have G1 := grownBy_trans hg21 (grownBy_setCell w21 P 42 (.int .i64 (rm - (L : Int)))); have oq21 := own_keep oq20 G1 (.inl fun e => own_ne oq20 r20 (by decide) e.symm); obtain ⟨gq, rfl, hqc⟩ := own_at oq21 hq3.out; have T4 : Hid ((w21.setCell ⟨P, 42, none⟩ (.int .i64 (rm - (L : Int)))).ownsRow B 94 2 (.slice a n c) n (rcs ps) ∧ ∀ j u, (rcs qs)[j]? = some u → (w21.setCell ⟨P, 42, none⟩ (.int .i64 (rm - (L : Int)))).cell? (Addr.add ⟨gq, 0, none⟩ j) = some u) := ⟨own_keep o20 G1 (.inl fun e => own_ne o20 r20 (by decide) e.symm), hqc⟩; have HQ21 : Hid ((w21.setCell ⟨P, 42, none⟩ (.int .i64 (rm - (L : Int)))).ownsRow w.heap.size 94 2 (.slice (some ⟨gq, 0, none⟩) qn qc) qn (rcs qs)) := oq21; clear hqc oq21)
    | (have kk := b20; refine ldO (.tmp 6) (by rfl) rfl gG 0 ow rfl (HG.out.below b20 HG.out.lt).range ?_)
    | (go_at_call 38; refine (length_any qa qn qc qs _ (HQ.out _ (Below.refl _ _)) (by omega) (by have := hq2.out; omega)).mono ?_; rintro e w20 ⟨rfl, b20⟩; rw [hq1.out]; replace c42 := (b20.cell (p := ⟨P, 42, none⟩) hPw).trans c42; have B20 := bt bX b20; have r20 := HD.out.row.below B20 HD.out.row.lt; have o20 := own_keep HD.out.own (grownBy_below none B20) (.inr rfl); have oq20 := own_keep HO.out (grownBy_below none b20) (.inr rfl)))
  go_ret
  have G3 := grownBy_setCell w30 P 43 (.slice a30 (n + qn) c30)
  refine ⟨rfl, ⟨a30, n + qn, c30, ps ++ qs, ⟨r30.dPs a30 (n + qn) c30, HD.out.ge, own_keep own30 G3 (.inl fun e => own_ne own30 r30 (by decide) e.symm), ?_, ?_⟩, by omega⟩, w20, _, w30, B20, G1, hg30, G3⟩
  · exact bods_taken B20 hB HD.out.bods (HBq.out.below b20) r20 G1 T4.out.1 hg30 r30 G3
  · rw [keys_append, HD.out.keys, HKq.out]
end Go.Proofs.YtdibjgcokebfbaaGreat

namespace Go.Proofs.YtdibjgcokebfbaaGreat
open Go.RowKit
set_option linter.unusedSimpArgs false
set_option maxRecDepth 20000

set_option maxHeartbeats 4000000 in
theorem rsame_true (t u : Tl) (w : World) (ht : TSrc w t) (hu : TSrc w u) (hk : t.key = u.key) (hn : t.sn ≤ 100000) :
    Calls Tryz.prog 28 #[.agg (tcells t).toArray, .agg (tcells u).toArray] w fun e w' => e = .returned (.bool true) ∧ Below w.heap.size w w' := by
  obtain ⟨ty, no, iv, sq, rx, me, ho, un, al, id, ad, pr, sa, sn, sc, st⟩ := t
  obtain ⟨ty', no', iv', sq', rx', me', ho', un', al', id', ad', pr', sb, sm, sd, st'⟩ := u
  unfold Tl.key at hk
  simp only [TK.mk.injEq] at hk
  obtain ⟨rfl, rfl, rfl, rfl, rfl, rfl, rfl, rfl, rfl, rfl, rfl, rfl, rfl⟩ := hk
  have hs1 : Hid (sn = st.length) := TSrc.len ht
  obtain rfl : sm = sn := (TSrc.len hu).trans hs1.out.symm
  generalize hT : (⟨ty, no, iv, sq, rx, me, ho, un, al, id, ad, pr, sa, sm, sc, st⟩ : Tl) = t
  generalize hU : (⟨ty, no, iv, sq, rx, me, ho, un, al, id, ad, pr, sb, sm, sd, st⟩ : Tl) = u
  rw [hT] at ht
  rw [hU] at hu
  have T67 : (tcells t)[67]? = some (.slice sa sm sc) := by rw [← hT]; exact tcells_get _
  have U67 : (tcells u)[67]? = some (.slice sb sm sd) := by rw [← hU]; exact tcells_get _
  have HT : Hid ((⟨ty, no, iv, sq, rx, me, ho, un, al, id, ad, pr, sa, sm, sc, st⟩ : Tl) = t) := hT
  have HU : Hid ((⟨ty, no, iv, sq, rx, me, ho, un, al, id, ad, pr, sb, sm, sd, st⟩ : Tl) = u) := hU
  have s1 : Src w sa sm sc (wcells st) := by rw [← hT] at ht; exact ht
  have s2 : Src w sb sm sd (wcells st) := by rw [← hU] at hu; exact hu
  have eI : ∀ w, (Op.equalIn (9998 + 2) 38 (.agg (icells id).toArray) (.agg (icells id).toArray)).run Tryz.prog w = .ok true w := fun w => by rw [eqI 9998 id id w]; simp
  have eA : ∀ w, (Op.equalIn (9998 + 2) 23 (Value.agg (acells ad).toArray) (Value.agg (acells ad).toArray)).run Tryz.prog w = .ok true w := fun w => by rw [eqA 9998 ad ad w]; simp
  have eQ : ∀ w, (Op.equalIn (9996 + 4) 42 (Value.agg (qcells pr).toArray) (Value.agg (qcells pr).toArray)).run Tryz.prog w = .ok true w := fun w => by rw [eqQ 9996 pr pr w]; simp
  have RT := (Row.new w 45 (tcells t)).alloc (.cells (tcells u).toArray 45)
  have RU := two_newR w (.cells (tcells t).toArray 45) 45 (tcells u)
  have BX := bt (ba w (.cells (tcells t).toArray 45)) (ba _ (.cells (tcells u).toArray 45))
  have HX : Hid (Row ((w.alloc (.cells (tcells t).toArray 45)).alloc (.cells (tcells u).toArray 45)) w.heap.size 45 (tcells t) ∧ Row ((w.alloc (.cells (tcells t).toArray 45)).alloc (.cells (tcells u).toArray 45)) (w.heap.size + 1) 45 (tcells u) ∧ Below w.heap.size w ((w.alloc (.cells (tcells t).toArray 45)).alloc (.cells (tcells u).toArray 45))) := ⟨RT, RU, BX⟩
  clear hT hU ht hu RT RU BX
  go_enter Tryz.func28, Tryz.ntmps28
  go_wp2
  obtain ⟨X, hXX⟩ : ∃ X, X = (w.alloc (.cells (tcells t).toArray 45)).alloc (.cells (tcells u).toArray 45) := ⟨_, rfl⟩
  rw [← hXX] at HX ⊢
  clear hXX T67 U67
  obtain ⟨RT, RU, BX⟩ := HX.out
  have z1 := RT.lt
  have z2 := RU.lt
  clear HX
  go_loopw [5] (fun i wr => ∃ j : Nat, j ≤ sm ∧ i = .int .i64 j ∧ Below X.heap.size X wr) (fun i _ => sm - (intOf i).toNat)
  case atStart => exact ⟨0, Nat.zero_le _, rfl, Below.refl _ _⟩
  case round =>
    obtain ⟨j, hj, rfl, hbl⟩ := hrel
    have rT := RT.below hbl z1
    have rU := RU.below hbl z2
    have bW := bt BX hbl
    have k67 : wr.cell? ⟨w.heap.size, 67, none⟩ = some (.slice sa sm sc) := by have := rT.rSt; rw [← HT.out] at this; exact this
    have l67 : wr.cell? ⟨w.heap.size + 1, 67, none⟩ = some (.slice sb sm sd) := by have := rU.rSt; rw [← HU.out] at this; exact this
    by_cases hlt : j < sm
    · have hjk : j < st.length := by have := hs1.out; omega
      cases sa with
      | none => exact absurd (s1.bare rfl).1 (by omega)
      | some p =>
        cases sb with
        | none => exact absurd (s2.bare rfl).1 (by omega)
        | some q =>
          have d1 := (s1.below bW s1.lt).wordAt j hjk
          have d2 := (s2.below bW s2.lt).wordAt j hjk
          generalize st[j].toNat = x at *
          go_wp2
          go_quiet (fail)
          go_wp2
          go_roundw
          case rel => exact ⟨j + 1, by omega, by go_num, below_drewN hbl _⟩
          case measure => simp [intOf]; omega
    · have i1 : wr.rangeAt w.heap.size 9 (icells id) := by have := rT.rId2; rw [← HT.out] at this; exact this
      have i2 : wr.rangeAt (w.heap.size + 1) 9 (icells id) := by have := rU.rId2; rw [← HU.out] at this; exact this
      have a1 : LA wr w.heap.size 17 ad := by have := rT.rAd; rw [← HT.out] at this; exact this
      have a2 : LA wr (w.heap.size + 1) 17 ad := by have := rU.rAd; rw [← HU.out] at this; exact this
      have p1 : LQ wr w.heap.size 33 pr := by have := rT.rPr; rw [← HT.out] at this; exact this
      have p2 : LQ wr (w.heap.size + 1) 33 pr := by have := rU.rPr; rw [← HU.out] at this; exact this
      have m0 : wr.cell? ⟨w.heap.size, 0, none⟩ = some (.int .u8 (ty : Int)) := by have := rT.cell 0; rw [← HT.out] at this; exact this
      have n0 : wr.cell? ⟨w.heap.size + 1, 0, none⟩ = some (.int .u8 (ty : Int)) := by have := rU.cell 0; rw [← HU.out] at this; exact this
      have m1 : wr.cell? ⟨w.heap.size, 1, none⟩ = some (.int .u16 (no : Int)) := by have := rT.cell 1; rw [← HT.out] at this; exact this
      have n1 : wr.cell? ⟨w.heap.size + 1, 1, none⟩ = some (.int .u16 (no : Int)) := by have := rU.cell 1; rw [← HU.out] at this; exact this
      have m2 : wr.cell? ⟨w.heap.size, 2, none⟩ = some (.int .u16 (iv : Int)) := by have := rT.cell 2; rw [← HT.out] at this; exact this
      have n2 : wr.cell? ⟨w.heap.size + 1, 2, none⟩ = some (.int .u16 (iv : Int)) := by have := rU.cell 2; rw [← HU.out] at this; exact this
      have m3 : wr.cell? ⟨w.heap.size, 3, none⟩ = some (.int .u16 (sq : Int)) := by have := rT.cell 3; rw [← HT.out] at this; exact this
      have n3 : wr.cell? ⟨w.heap.size + 1, 3, none⟩ = some (.int .u16 (sq : Int)) := by have := rU.cell 3; rw [← HU.out] at this; exact this
      have m4 : wr.cell? ⟨w.heap.size, 4, none⟩ = some (.int .u16 (rx : Int)) := by have := rT.cell 4; rw [← HT.out] at this; exact this
      have n4 : wr.cell? ⟨w.heap.size + 1, 4, none⟩ = some (.int .u16 (rx : Int)) := by have := rU.cell 4; rw [← HU.out] at this; exact this
      have m5 : wr.cell? ⟨w.heap.size, 5, none⟩ = some (.int .u16 (me : Int)) := by have := rT.cell 5; rw [← HT.out] at this; exact this
      have n5 : wr.cell? ⟨w.heap.size + 1, 5, none⟩ = some (.int .u16 (me : Int)) := by have := rU.cell 5; rw [← HU.out] at this; exact this
      have m6 : wr.cell? ⟨w.heap.size, 6, none⟩ = some (.int .u8 (ho : Int)) := by have := rT.cell 6; rw [← HT.out] at this; exact this
      have n6 : wr.cell? ⟨w.heap.size + 1, 6, none⟩ = some (.int .u8 (ho : Int)) := by have := rU.cell 6; rw [← HU.out] at this; exact this
      have m7 : wr.cell? ⟨w.heap.size, 7, none⟩ = some (.bool un) := by have := rT.cell 7; rw [← HT.out] at this; exact this
      have n7 : wr.cell? ⟨w.heap.size + 1, 7, none⟩ = some (.bool un) := by have := rU.cell 7; rw [← HU.out] at this; exact this
      have m8 : wr.cell? ⟨w.heap.size, 8, none⟩ = some (.bool al) := by have := rT.cell 8; rw [← HT.out] at this; exact this
      have n8 : wr.cell? ⟨w.heap.size + 1, 8, none⟩ = some (.bool al) := by have := rU.cell 8; rw [← HU.out] at this; exact this
      clear rT rU RT RU s1 s2
      go_wp2_with (first
        | (refine ldQ (.tmp 109) (by rfl) rfl _ _ pr rfl p2 ?_)
        | (refine ldQ (.tmp 107) (by rfl) rfl _ _ pr rfl p1 ?_)
        | (refine ldA (.tmp 102) (by rfl) rfl _ _ ad rfl a2 ?_)
        | (refine ldA (.tmp 100) (by rfl) rfl _ _ ad rfl a1 ?_)
        | (refine ldI (.tmp 95) (by rfl) rfl _ _ id rfl i2 ?_)
        | (refine ldI (.tmp 93) (by rfl) rfl _ _ id rfl i1 ?_))
      go_ret
      exact ⟨rfl, bW⟩
end Go.Proofs.YtdibjgcokebfbaaGreat
