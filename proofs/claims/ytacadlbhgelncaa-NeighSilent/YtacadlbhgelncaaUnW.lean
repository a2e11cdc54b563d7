/-
  The walk of NeighUnheard.
-/
import Derived.Test.YtacadlbhgelncaaN21
import Derived.Test.YtacadlbhgelncaaN18
namespace Go.Proofs.Ytacadlbhgelncaa
open Lk (Hi hcs hcs_one)
open Rk (Rt rcs rtV)
open Go.RowKit Go.Maps Go.Shelf
set_option linter.unusedSimpArgs false
set_option linter.unusedVariables false
set_option maxRecDepth 20000
/-- A table under way, in memory that is made behind X. -/
structure Stt (X W : World) (t mb : Nat) (most : Int) (F : List Fc) (L : List Ng) : Prop where
  tb : Tb W t mb most F L
  mt : X.heap.size ≤ mb
  bl : Below X.heap.size X W
theorem Stt.turn {X W W' : World} {t mb : Nat} {most : Int} {F : List Fc} {L L' : List Ng} (h : Stt X W t mb most F L) (k : Turn W W' t mb most F L') : Stt X W' t mb most F L' :=
  ⟨k.tb, h.mt, k.below h.bl h.mt h.bl.size⟩
theorem Stt.below {X W W' : World} {t mb : Nat} {most : Int} {F : List Fc} {L : List Ng} (h : Stt X W t mb most F L) (k : Below W.heap.size W W') : Stt X W' t mb most F L := h.turn (Turn.of h.tb k)
theorem faces_ok {l : List Ic} (h : ∀ c ∈ l, IfOk c) : ∀ f ∈ l.map faceI, f.ok := by
  intro f hf
  obtain ⟨c, hc, rfl⟩ := List.mem_map.1 hf
  have e : IntKind.u16.wrap c.c = c.c % 65536 := by simp [IntKind.wrap, IntKind.signed, IntKind.bits]
  exact ⟨by show 0 ≤ IntKind.u16.wrap c.c; omega, by show IntKind.u16.wrap c.c < 65536; omega, (h c hc).r⟩
theorem new_s {X W : World} (most : Int) (ad : Option Addr) (c : Nat) (l : List Ic) (hX : Below X.heap.size X W) (hl : CsW W ad l) (hn : l.length ≤ 8) (hk : ∀ c ∈ l, IfOk c) :
    Calls Try.prog 10 #[.int .i64 most, .slice ad l.length c] W fun e w' => ∃ t mb, e = .returned (.pointer (some ⟨t, 0, none⟩)) ∧ Stt X w' t mb most (l.map faceI) [] := by
  refine (new_any most ad c l W hl (by omega)).mono ?_
  rintro e w' ⟨t, mb, fa, rfl, h1, h2, hN⟩
  have hs := hX.size
  exact ⟨t, mb, rfl, hN.tb (faces_ok hk) (by simp; omega), by omega, bt hX hN.bl⟩
/-- A neighbour of whom one hello was heard. -/
def oneN (c : Ad) (h : Tl) : Ng := greetN (newN 0 c) 0 h
theorem one_bits (c : Ad) (h : Tl) : ((oneN c h).m.b = 0 ∨ (oneN c h).m.b = 32768) ∧ ((oneN c h).u.b = 0 ∨ (oneN c h).u.b = 32768) ∧ (oneN c h).i = 0 ∧ (oneN c h).a = c ∧ (oneN c h).hr = false := by
  obtain ⟨k1, k2, k3⟩ := greet_key (newN 0 c) 0 h
  refine ⟨?_, ?_, k1, k2, k3⟩
  · unfold oneN greetN heardN
    split <;> split <;> first | exact .inl rfl | exact .inr (by simp [Lk.hearH, Lk.befZ, newN])
  · unfold oneN greetN heardN
    split <;> split <;> first | exact .inl rfl | exact .inr (by simp [Lk.hearH, Lk.befZ, newN])
theorem rx_one {f : Fc} {n : Ng} (hk : f.k = 0) (hm : n.m.b = 0 ∨ n.m.b = 32768) (hu : n.u.b = 0 ∨ n.u.b = 32768) : rxN f n = 65535 := by
  have h0 : Lk.rxZ 0 f.c 0 = 65535 := by unfold Lk.rxZ; rw [if_pos rfl, if_neg (by decide)]
  have h1 : Lk.rxZ 0 f.c 32768 = 65535 := by unfold Lk.rxZ; rw [if_pos rfl, if_neg (by decide)]
  have hx : ∀ z : Int, z = 0 ∨ z = 32768 → Lk.rxZ f.k f.c z.toNat = 65535 := by
    rintro z (rfl | rfl)
    · rw [hk]; exact h0
    · rw [hk]; exact h1
  show min (min 65535 (Lk.rxZ f.k f.c n.m.b.toNat)) (Lk.rxZ f.k f.c n.u.b.toNat) = 65535
  rw [hx _ hm, hx _ hu]
  rfl
theorem cost_inf {f : Fc} {n : Ng} (fo : f.ok) (hr : n.hr = true → f.r.on = true) (h : rxN f n = 65535 ∨ n.tx = 65535) : costN f n = 65535 := by
  have hz : Lk.costZ f.k (rxN f n) n.tx = 65535 := by unfold Lk.costZ; rw [if_pos h]
  unfold costN
  rw [hz]
  split
  · rename_i e
    have := (costR_ok f.r n.rt (fo.ro (hr e))).1
    omega
  · rfl
theorem ihu_none {X W : World} {t mb : Nat} {most : Int} {F : List Fc} (h : Stt X W t mb most F []) (c : Ad) (u : Tl) (hf : u.fit) (hF : 0 < F.length) (hy : u.ty = 5) (hS : Sm W u) :
    Calls Try.prog 14 #[.pointer (some ⟨t, 0, none⟩), .int .i64 0, .int .i64 0, (Value.agg (acells c).toArray), .agg (tcells u).toArray] W fun e w' => e = .returned (.int .i64 7) ∧ Stt X w' t mb most F [] := by
  refine (ihu_any h.tb 0 0 c u zeroN wfI0 hf (by omega) (by omega) hS (by simp) (fun n hn => by cases hn)).mono ?_
  have e : ihuR F [] 0 c u zeroN = (7, []) := by
    unfold ihuR
    rw [if_neg (by simp [hy, hF])]
    rfl
  rw [e]
  rintro e w' ⟨rfl, hT⟩
  exact ⟨rfl, h.turn hT⟩
theorem rx_none {X W : World} {t mb : Nat} {most : Int} {F : List Fc} (h : Stt X W t mb most F []) (c : Ad) :
    Calls Try.prog 19 #[.pointer (some ⟨t, 0, none⟩), .int .i64 0, (Value.agg (acells c).toArray)] W fun e w' => e = .returned (.int .u16 65535) ∧ Stt X w' t mb most F [] := by
  refine (rx_tab h.tb 0 c wfI0).mono ?_
  rintro e w' ⟨rfl, hB⟩
  exact ⟨rfl, h.below hB⟩
theorem list_none {X W : World} {t mb : Nat} {most : Int} {F : List Fc} (h : Stt X W t mb most F []) :
    Calls Try.prog 13 #[.pointer (some ⟨t, 0, none⟩)] W fun e w' => ∃ ad c, e = .returned (.slice ad 0 c) ∧ Stt X w' t mb most F [] := by
  refine (list_one h.tb (by simp)).mono ?_
  rintro e w' ⟨r, rfl, hO, hB⟩
  obtain ⟨ad, c, rfl, _⟩ := Kd.own_at hO
  exact ⟨ad, c, rfl, h.below hB⟩
theorem hello_one {X W : World} {t mb : Nat} {F : List Fc} (h : Stt X W t mb 5 F []) (c : Ad) (u : Tl) (hf : u.fit) (hF : 0 < F.length) (hy : u.ty = 4) (hS : Sm W u) :
    Calls Try.prog 11 #[.pointer (some ⟨t, 0, none⟩), .int .i64 0, .int .i64 0, (Value.agg (acells c).toArray), .agg (tcells u).toArray] W fun e w' => e = .returned (.int .i64 0) ∧ Stt X w' t mb 5 F [oneN c u] := by
  refine (hello_any h.tb 0 0 c u wfI0 hf (by omega) (by omega) hS (by simp)).mono ?_
  have e : helloR 5 F [] 0 0 c u = (0, [oneN c u]) := by
    unfold helloR
    rw [if_neg (by simp [hy, hF])]
    rfl
  rw [e]
  rintro e w' ⟨rfl, hT⟩
  exact ⟨rfl, h.turn hT⟩
/-- .. and who then says how it hears. -/
def twoN (f : Fc) (c : Ad) (h u : Tl) : Ng := timedN (toldN (oneN c h) 0 u) 0 f.r u.st
theorem two_is (f : Fc) (c : Ad) (h u : Tl) (ro : f.r.on = true → f.r.ok) (ok : (oneN c h).ok) (hf : u.fit) : (twoN f c h u).ok ∧ (twoN f c h u).i = 0 ∧ (twoN f c h u).a = c ∧ ((twoN f c h u).hr = true → f.r.on = true) ∧ (twoN f c h u).tx = u.rx ∧ (twoN f c h u).m = (oneN c h).m ∧ (twoN f c h u).u = (oneN c h).u := by
  obtain ⟨_, _, b3, b4, b5⟩ := one_bits c h
  have o2 : (toldN (oneN c h) 0 u).ok := ⟨ok.mo, ok.mj, ok.uo, ok.uj, ok.mg0, ok.mg1, ok.ug0, ok.ug1, ok.ma0, ok.ma1, ok.ua0, ok.ua1, by show (0 : Int) ≤ (u.rx : Int); omega, by show (u.rx : Int) < 65536; have := hf.r1; omega, ok.rt0, ok.rt1⟩
  obtain ⟨k1, k2, k3, k4, k5⟩ := timed_ok (now := 0) (st := u.st) o2 ro
  refine ⟨k1, k2.trans b3, k3.trans b4, fun e => (k4 e).resolve_left (fun e' => by have e2 : (oneN c h).hr = true := e'; rw [b5] at e2; cases e2), k5, ?_, ?_⟩
  · unfold twoN timedN
    split
    · split <;> rfl
    · rfl
  · unfold twoN timedN
    split
    · split <;> rfl
    · rfl
theorem ihu_one {X W : World} {t mb : Nat} {F : List Fc} {f : Fc} (c : Ad) (h0 u : Tl) (h : Stt X W t mb 5 F [oneN c h0]) (hf : u.fit) (hF : F[0]? = some f) (hy : u.ty = 5) (hS : Sm W u) :
    Calls Try.prog 14 #[.pointer (some ⟨t, 0, none⟩), .int .i64 0, .int .i64 0, (Value.agg (acells c).toArray), .agg (tcells u).toArray] W fun e w' => e = .returned (.int .i64 0) ∧ Stt X w' t mb 5 F [twoN f c h0 u] := by
  have hFl : 0 < F.length := (List.getElem?_eq_some_iff.1 hF).1
  have fo := h.tb.fok f (List.mem_of_getElem? hF)
  have nk := (h.tb.nok _ (by simp : oneN c h0 ∈ [oneN c h0])).1
  obtain ⟨_, _, b3, b4, b5⟩ := one_bits c h0
  have t2 := two_is f c h0 u fo.ro nk hf
  have hg : getN [oneN c h0] 0 c = some (oneN c h0) := by
    unfold getN
    rw [List.find?_cons_of_pos (keyB_iff.2 ⟨b3, b4⟩)]
  refine (ihu_any h.tb 0 0 c u (twoN f c h0 u) wfI0 hf (by omega) (by omega) hS (by simp) (fun n hn f' hf' => ?_)).mono ?_
  · rw [hg] at hn
    cases hn
    have e : F[0]? = some f' := hf'
    rw [hF] at e
    cases e
    refine ⟨fun W' hW' => timed_any _ 0 f.r u W' ?_ fo.ro (hS.below hW' (Nat.le_refl _)), t2.1, t2.2.1, t2.2.2.1, t2.2.2.2.1⟩
    exact ⟨nk.mo, nk.mj, nk.uo, nk.uj, nk.mg0, nk.mg1, nk.ug0, nk.ug1, nk.ma0, nk.ma1, nk.ua0, nk.ua1, by show (0 : Int) ≤ (u.rx : Int); omega, by show (u.rx : Int) < 65536; have := hf.r1; omega, nk.rt0, nk.rt1⟩
  · have e : ihuR F [oneN c h0] 0 c u (twoN f c h0 u) = (0, [twoN f c h0 u]) := by
      unfold ihuR
      rw [if_neg (by simp [hy, hFl]), hg]
      show (0, putN [oneN c h0] (twoN f c h0 u)) = _
      rw [putN_one (t2.2.1.trans b3.symm) (t2.2.2.1.trans b4.symm)]
    rw [e]
    rintro e w' ⟨rfl, hT⟩
    exact ⟨rfl, h.turn hT⟩
theorem get_two {X W : World} {t mb : Nat} {F : List Fc} {n : Ng} (c : Ad) (h : Stt X W t mb 5 F [n]) (hi : n.i = 0) (ha : n.a = c) :
    Calls Try.prog 17 #[.pointer (some ⟨t, 0, none⟩), .int .i64 0, (Value.agg (acells c).toArray)] W fun e w' => e = .returned (.tuple #[nV n, .bool true]) ∧ Stt X w' t mb 5 F [n] := by
  have hg : getN [n] 0 c = some n := by
    unfold getN
    rw [List.find?_cons_of_pos (keyB_iff.2 ⟨hi, ha⟩)]
  refine (get_any h.tb 0 c wfI0).mono ?_
  rw [hg]
  rintro e w' ⟨rfl, hB⟩
  exact ⟨rfl, h.below hB⟩
theorem cost_two {X W : World} {t mb : Nat} {F : List Fc} {n : Ng} {f : Fc} (c : Ad) (h : Stt X W t mb 5 F [n]) (hi : n.i = 0) (ha : n.a = c) (hF : F[0]? = some f) :
    Calls Try.prog 20 #[.pointer (some ⟨t, 0, none⟩), .int .i64 0, (Value.agg (acells c).toArray)] W fun e w' => e = .returned (.int .u16 (costN f n)) ∧ Stt X w' t mb 5 F [n] := by
  have hg : getN [n] 0 c = some n := by
    unfold getN
    rw [List.find?_cons_of_pos (keyB_iff.2 ⟨hi, ha⟩)]
  refine (cost_all h.tb 0 c wfI0).mono ?_
  have e : costU F [n] 0 c = costN f n := by
    unfold costU
    rw [hg]
    show costV (some n) F[0]? = _
    rw [hF]; rfl
  rw [e]
  rintro e w' ⟨rfl, hB⟩
  exact ⟨rfl, h.below hB⟩
theorem low3 (w : World) (cs ds es : List Value) (t u v : TypeId) : Below w.heap.size w (((w.alloc (.cells cs.toArray t)).alloc (.cells ds.toArray u)).alloc (.cells es.toArray v)) ∧ Row (((w.alloc (.cells cs.toArray t)).alloc (.cells ds.toArray u)).alloc (.cells es.toArray v)) w.heap.size t cs ∧ Row (((w.alloc (.cells cs.toArray t)).alloc (.cells ds.toArray u)).alloc (.cells es.toArray v)) (w.heap.size + 1) u ds ∧ Row (((w.alloc (.cells cs.toArray t)).alloc (.cells ds.toArray u)).alloc (.cells es.toArray v)) (w.heap.size + 1 + 1) v es := by
  obtain ⟨hB, r0, r1⟩ := low_rows w cs ds t u
  have q1 := Row.new ((w.alloc (.cells cs.toArray t)).alloc (.cells ds.toArray u)) v es
  rw [World.size_alloc, World.size_alloc] at q1
  exact ⟨bt hB (ba _ _), r0.alloc _, r1.alloc _, q1⟩
set_option maxHeartbeats 16000000 in
theorem unheard_walk (ad : Option Addr) (k : Nat) (l : List Ic) (c : Ad) (h u : Tl) (w : World) (hl : CsW w ad l) (hk : l.length ≤ k) (hkm : k ≤ maxLen) (hS : Sm w h) (hf : h.fit) (hSu : Sm w u) (hfu : u.fit) (hn1 : h.sn ≤ maxLen) (hn2 : u.sn ≤ maxLen) :
    Calls Try.prog 7 #[.slice ad l.length k, (Value.agg (acells c).toArray), .agg (tcells h).toArray, .agg (tcells u).toArray] w (Gives w (.bool true)) := by
  obtain ⟨hB, rA, rH, rU⟩ := low3 w (acells c) (tcells h) (tcells u) 29 39 39
  have kh0 : (tcells h)[0]? = some (.int .u8 (h.ty : Int)) := rfl
  have ku0 : (tcells u)[0]? = some (.int .u8 (u.ty : Int)) := rfl
  have ku4 : (tcells u)[4]? = some (.int .u16 (u.rx : Int)) := rfl
  have kh67 := tcells_get h
  have ku67 := tcells_get u
  have hlw : ∀ W, Below w.heap.size w W → CsW W ad l := fun W hW => hl.below hW
  have hSw : ∀ W, Below w.heap.size w W → Sm W h := fun W hW => hS.below hW (Nat.le_refl _)
  have hSuw : ∀ W, Below w.heap.size w W → Sm W u := fun W hW => hSu.below hW (Nat.le_refl _)
  have hRi : ∀ W, Below w.heap.size w W → Calls Try.prog 8 #[.slice ad l.length k, .slice none 0 0] W (RightP l [] W) := fun W hW => right_any ad k l none 0 [] W (hlw W hW) hk hkm ⟨.inl rfl, by simp⟩ (by simp)
  clear hl hS hSu
  go_enter Try.func7, Try.ntmps7
  go_upto_region 1 with fail
  refine name_world (R := fun W => Code.wp _ _ _ _ W) (P := fun W => Below w.heap.size w W ∧ Row W w.heap.size 29 (acells c) ∧ Row W (w.heap.size + 1) 39 (tcells h) ∧ Row W (w.heap.size + 1 + 1) 39 (tcells u)) _ ⟨hB, rA, rH, rU⟩ ?_
  clear hB rA rH rU
  rintro X ⟨hB, rA, rH, rU⟩
  have hsA := rA.lt
  have hsH := rH.lt
  have hsU := rU.lt
  replace hRi := hRi X hB
  have HKX : Hid (∀ W, Below X.heap.size X W → W.cell? ⟨w.heap.size + 1, 0, none⟩ = some (.int .u8 (h.ty : Int)) ∧ W.cell? ⟨w.heap.size + 1 + 1, 0, none⟩ = some (.int .u8 (u.ty : Int)) ∧ W.cell? ⟨w.heap.size + 1, 67, none⟩ = some (.slice h.sa h.sn h.sc) ∧ W.cell? ⟨w.heap.size + 1 + 1, 67, none⟩ = some (.slice u.sa u.sn u.sc) ∧ W.cell? ⟨w.heap.size + 1 + 1, 4, none⟩ = some (.int .u16 (u.rx : Int))) := fun W hW => ⟨((rH.below hW hsH).cell 0).trans kh0, ((rU.below hW hsU).cell 0).trans ku0, ((rH.below hW hsH).cell 67).trans kh67, ((rU.below hW hsU).cell 67).trans ku67, ((rU.below hW hsU).cell 4).trans ku4⟩
  clear kh0 ku0 kh67 ku67 ku4
  have HL : ∀ W, Below X.heap.size X W → Calls Try.prog 9 #[] W fun e w' => e = .returned (.bool true) ∧ Below w.heap.size w w' := fun W hW => (live_any W).mono (by
    rintro e w' ⟨rfl, hn⟩
    exact ⟨rfl, bt (bt hB hW) hn⟩)
  go_upto_region 3 with (first
    | (have kk := hb; go_at_call 9; refine (HL _ hb).mono ?_; rintro e wl ⟨rfl, hn⟩)
    | (go_at_call 8; refine hRi.mono ?_; rintro e w1 ⟨b, rfl, hr, hb⟩; obtain ⟨xh0, xu0, xh67, xu67, xu4⟩ := HKX.out _ hb; cases b))
  all_goals try (go_ret; exact ⟨rfl, hn⟩)
  rename_i z1 z2 z3 z4 zK zA
  obtain ⟨hok, hl8, _, _⟩ := hr (by simp)
  have q1 : 0 < l.length := List.length_pos_iff.2 z1
  have q3 : h.ty = 4 := by omega
  have q4 : u.ty = 5 := by have := z4.2; simp at this; omega
  have hl0 : (0 : Int) < (l.length : Int) := by omega
  clear hr z1 z2 z3 z4 xh0 xu0 xh67 xu67 hRi
  obtain ⟨p, hp⟩ : ∃ p, l[0]? = some p := ⟨_, List.getElem?_eq_getElem (by omega)⟩
  have hF0 : (l.map faceI)[0]? = some (faceI p) := by rw [List.getElem?_map, hp]; rfl
  have hFl : 0 < (l.map faceI).length := by simp; omega
  have hpk : (faceI p).k = p.k := rfl
  have fok := faces_ok hok (faceI p) (List.mem_map_of_mem (List.mem_of_getElem? hp))
  have HPK : Hid (∀ W, Below X.heap.size X W → ∃ g o, ad = some ⟨g, o, none⟩ ∧ W.cell? ⟨g, o + 1, none⟩ = some (.int .i64 p.k)) := fun W hW => by
    rcases (hlw W (bt hB hW)).lies with h0 | ⟨g, o, e, _, hc⟩
    · rw [h0] at hp; cases hp
    · refine ⟨g, o, e, ?_⟩
      have h1 := hc 0 p hp
      rw [Nat.zero_mul, Nat.add_zero] at h1
      exact h1 1 _ rfl
  have hNew := new_s (X := X) 5 ad k l hb (hlw _ (bt hB hb)) hl8 hok
  have HF : Hid (∀ t mb W, Stt X W t mb 5 (l.map faceI) [oneN c h] → (twoN (faceI p) c h u).i = 0 ∧ (twoN (faceI p) c h u).a = c ∧ (twoN (faceI p) c h u).tx = u.rx ∧ (p.k = 0 → costN (faceI p) (twoN (faceI p) c h u) = 65535) ∧ (u.rx = 65535 → costN (faceI p) (twoN (faceI p) c h u) = 65535)) := fun t mb W hS => by
    have nk := (hS.tb.nok _ (by simp : oneN c h ∈ [oneN c h])).1
    obtain ⟨b1, b2, _⟩ := one_bits c h
    obtain ⟨_, k2, k3, k4, k5, k6, k7⟩ := two_is (faceI p) c h u fok.ro nk hfu
    refine ⟨k2, k3, k5, fun e => cost_inf fok k4 (.inl (rx_one (hpk.trans e) (by rw [k6]; exact b1) (by rw [k7]; exact b2))), fun e => cost_inf fok k4 (.inr (by rw [k5, e]; rfl))⟩
  have hIhu0 := fun t mb W (hS : Stt X W t mb 5 (l.map faceI) []) => ihu_none hS c u hfu hFl q4 (hSuw W (bt hB hS.bl))
  have hRx0 := fun t mb W (hS : Stt X W t mb 5 (l.map faceI) []) => rx_none hS c
  have hLi0 := fun t mb W (hS : Stt X W t mb 5 (l.map faceI) []) => list_none hS
  have hHe := fun t mb W (hS : Stt X W t mb 5 (l.map faceI) []) => hello_one hS c h hf hFl q3 (hSw W (bt hB hS.bl))
  have hIhu1 := fun t mb W (hS : Stt X W t mb 5 (l.map faceI) [oneN c h]) => ihu_one c h u hS hfu hF0 q4 (hSuw W (bt hB hS.bl))
  have hGet := fun t mb W (hS : Stt X W t mb 5 (l.map faceI) [twoN (faceI p) c h u]) => get_two c hS
  have hCo := fun t mb W (hS : Stt X W t mb 5 (l.map faceI) [twoN (faceI p) c h u]) hi ha => cost_two c hS hi ha hF0
  clear hok hl8 hp hF0 hFl hpk fok hlw hSw hSuw hf hfu hk hkm hn1 hn2 q1 q3 q4
  generalize twoN (faceI p) c h u = n2 at *
  generalize oneN c h = n1 at *
  generalize costN (faceI p) n2 = cv at *
  generalize l.map faceI = F at *
  go_upto_region 10 with (first
    | (have kk := s5; go_at_call 18; refine (num_any _ _).mono ?_; rintro e w9 ⟨rfl, rfl⟩)
    | (have kk := s4; go_at_call 14; refine (hIhu1 _ _ _ s4).mono ?_; rintro e w8 ⟨rfl, s5⟩; have hfn := HF.out _ _ _ s4; clear s4; clear hcb; have hcb := s5.bl)
    | (have kk := s4; go_at_call 18; refine (num_any _ _).mono ?_; rintro e w9 ⟨rfl, rfl⟩)
    | (have kk := s3; go_at_call 11; refine (hHe _ _ _ s3).mono ?_; rintro e w7 ⟨rfl, s4⟩; clear s3; clear hcb; have hcb := s4.bl)
    | (have kk := s2; go_at_call 13; refine (hLi0 _ _ _ s2).mono ?_; rintro e w6 ⟨lad, lc, rfl, s3⟩; clear s2; clear hcb; have hcb := s3.bl)
    | (have kk := s1; go_at_call 19; refine (hRx0 _ _ _ s1).mono ?_; rintro e w5 ⟨rfl, s2⟩; clear s1; clear hcb; have hcb := s2.bl)
    | (have kk := s1; go_at_call 18; refine (num_any _ _).mono ?_; rintro e w9 ⟨rfl, rfl⟩)
    | (have kk := s0; go_at_call 14; refine (hIhu0 _ _ _ s0).mono ?_; rintro e w4 ⟨rfl, s1⟩; clear s0; clear hcb; have hcb := s1.bl)
    | (have kk := hNew; go_at_call 10; refine hNew.mono ?_; rintro e w3 ⟨t, mb, rfl, s0⟩; clear hNew; have hcb := s0.bl)
    | (have kk := hcb; refine ldA (.tmp 5) rfl rfl _ _ c rfl (rA.below hcb hsA).range ?_)
    | (have kk := hcb; refine ldT (.tmp 6) rfl rfl _ h rfl (rH.below hcb hsH) ?_)
    | (have kk := hcb; refine ldT (.tmp 7) rfl rfl _ u rfl (rU.below hcb hsU) ?_))
  obtain ⟨i2, a2, tx2, ck0, ck1⟩ := hfn
  obtain ⟨pg, po, rfl, pc⟩ := HPK.out _ s5.bl
  have hGet1 := hGet _ _ _ s5 i2 a2
  have hCo1 := fun W (hS : Stt X W t mb 5 F [n2]) => hCo _ _ _ hS i2 a2
  have HLive : ∀ W, Stt X W t mb 5 F [n2] → Calls Try.prog 9 #[] W fun e w' => e = .returned (.bool true) ∧ Below w.heap.size w w' := fun W hS => HL W hS.bl
  have HKp : Hid (∀ W, Stt X W t mb 5 F [n2] → W.cell? ⟨pg, po + 1, none⟩ = some (.int .i64 p.k) ∧ W.cell? ⟨w.heap.size + 1 + 1, 4, none⟩ = some (.int .u16 (u.rx : Int))) := fun W hS => by
    obtain ⟨g', o', e, hc⟩ := HPK.out _ hS.bl
    cases e
    exact ⟨hc, (HKX.out _ hS.bl).2.2.2.2⟩
  clear hGet hCo hIhu0 hRx0 hLi0 hHe hIhu1 HF HPK HKX HL hcb pc
  go_upto_region 11 with (first
    | (have kk := r6; refine stN (.tmp 10) (.tmp 82) rfl rfl g6 n2 _ rfl rfl r6 ?_; intro W7 g7 r7; clear r6)
    | (have kk := s6; refine alG infoNz rfl rfl ?_; intro g6 W6 hge6 hgl6 hB6 r6)
    | (have kk := s5; go_at_call 17; refine hGet1.mono ?_; rintro e w6 ⟨rfl, s6⟩; clear s5)
    | (have kk := s5; refine ldA (.tmp 5) rfl rfl _ _ c rfl (rA.below s5.bl hsA).range ?_))
  have s7 : Stt X W7 t mb 5 F [n2] := s6.below (grown_below g7 hB6 hge6 hB6.size)
  have c27 := (r7.cell 27).trans (nc27 _)
  rw [tx2] at c27
  obtain ⟨pk, xu⟩ := HKp.out _ s7
  clear s6 g7 hB6 hge6 hgl6
  by_cases k0 : p.k = 0
  · have d0 : (p.k == 0) = true := by simp [k0]
    obtain rfl := ck0 k0
    by_cases r5 : u.rx = 65535
    · have d1 : ((u.rx : Int) != 65535) = false := by simp; omega
      clear ck0 ck1
      go_wp2_with (first
        | (have kk := s7; go_at_call 9; refine (HLive _ s7).mono ?_; rintro e wl ⟨rfl, hn⟩)
        | (have kk := s7; go_at_call 20; refine (hCo1 _ s7).mono ?_; rintro e w8 ⟨rfl, s8⟩; replace xu := (HKp.out _ s8).2; clear s7; have s7 := s8; clear s8)
        | (have kk := s7; refine ldA (.tmp 5) rfl rfl _ _ c rfl (rA.below s7.bl hsA).range ?_))
      go_ret
      exact ⟨rfl, hn⟩
    · have d1 : ((u.rx : Int) != 65535) = true := by simp; omega
      clear ck0 ck1
      go_wp2_with (first
        | (have kk := s7; go_at_call 9; refine (HLive _ s7).mono ?_; rintro e wl ⟨rfl, hn⟩)
        | (have kk := s7; go_at_call 20; refine (hCo1 _ s7).mono ?_; rintro e w8 ⟨rfl, s8⟩; replace xu := (HKp.out _ s8).2; clear s7; have s7 := s8; clear s8)
        | (have kk := s7; refine ldA (.tmp 5) rfl rfl _ _ c rfl (rA.below s7.bl hsA).range ?_))
      go_ret
      exact ⟨rfl, hn⟩
  · have d0 : (p.k == 0) = false := by simp [k0]
    by_cases r5 : u.rx = 65535
    · have d1 : ((u.rx : Int) != 65535) = false := by simp; omega
      obtain rfl := ck1 r5
      clear ck0 ck1
      go_wp2_with (first
        | (have kk := s7; go_at_call 9; refine (HLive _ s7).mono ?_; rintro e wl ⟨rfl, hn⟩)
        | (have kk := s7; go_at_call 20; refine (hCo1 _ s7).mono ?_; rintro e w8 ⟨rfl, s8⟩; replace xu := (HKp.out _ s8).2; clear s7; have s7 := s8; clear s8)
        | (have kk := s7; refine ldA (.tmp 5) rfl rfl _ _ c rfl (rA.below s7.bl hsA).range ?_))
      go_ret
      exact ⟨rfl, hn⟩
    · have d1 : ((u.rx : Int) != 65535) = true := by simp; omega
      clear ck0 ck1
      go_wp2_with (first
        | (have kk := s7; go_at_call 9; refine (HLive _ s7).mono ?_; rintro e wl ⟨rfl, hn⟩)
        | (have kk := s7; go_at_call 20; refine (hCo1 _ s7).mono ?_; rintro e w8 ⟨rfl, s8⟩; replace xu := (HKp.out _ s8).2; clear s7; have s7 := s8; clear s8)
        | (have kk := s7; refine ldA (.tmp 5) rfl rfl _ _ c rfl (rA.below s7.bl hsA).range ?_))
      go_ret
      exact ⟨rfl, hn⟩

end Go.Proofs.Ytacadlbhgelncaa
