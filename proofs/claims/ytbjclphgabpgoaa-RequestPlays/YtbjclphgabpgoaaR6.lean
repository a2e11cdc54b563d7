/-
  Own, Ask, Met.
-/
import Derived.Test.YtbjclphgabpgoaaR4
namespace Go.Proofs.Ytbjclphgabpgoaa
open Go.RowKit Go.Maps
set_option linter.unusedSimpArgs false
set_option linter.unusedVariables false
set_option maxRecDepth 20000
def ownZ (o a : Int) : Int := if Sn.lessB o a = true then Sn.plusZ o 1 else o
theorem own_any (o a : Int) (w : World) : Calls Try.prog 11 #[.int .u16 o, .int .u16 a] w fun e w' => e = .returned (.int .u16 (ownZ o a)) ∧ w = w' := by
  have hL := Sn.less_any o a w
  have hP := Sn.plus_any o 1 w
  unfold ownZ
  generalize Sn.lessB o a = b at *
  cases b with
  | true =>
    go_enter Try.func11, Try.ntmps11
    go_wp2_with (first
      | (go_at_call 27; refine hP.mono ?_; rintro e w1 ⟨rfl, rfl⟩)
      | (go_at_call 26; refine hL.mono ?_; rintro e w1 ⟨rfl, rfl⟩))
    go_ret
    exact ⟨rfl, rfl⟩
  | false =>
    go_enter Try.func11, Try.ntmps11
    go_wp2_with (first
      | (go_at_call 26; refine hL.mono ?_; rintro e w1 ⟨rfl, rfl⟩))
    go_ret
    exact ⟨rfl, rfl⟩
/-- What is kept of a request that is asked. -/
def newR (now : Int) (p : Pr) (i : Id8) (s : Int) : Sr := sentR ⟨p, i, s, 0, 0⟩ now
/-- Whether it is to be sent. -/
def askB (most : Int) (L : List Sr) (p : Pr) (i : Id8) (s : Int) : Bool := match getN L p i with | some n => Sn.lessB n.s s | none => decide ((L.length : Int) < most)
def askE (most : Int) (L : List Sr) (p : Pr) (i : Id8) : Int := match getN L p i with | some _ => 0 | none => if most ≤ (L.length : Int) then 6 else 0
def askL (most : Int) (L : List Sr) (now : Int) (p : Pr) (i : Id8) (s : Int) : List Sr := if askB most L p i s = true then putN L (newR now p i s) else L
theorem sc42 (n : Sr) : (scs n)[42]? = some (.int .u16 n.s) := by
  simp [scs, dcs, qcells_len, icells_len, List.getElem?_append_right]
theorem newR_ok {now : Int} {p : Pr} {i : Id8} {s : Int} (t0 : 0 ≤ now) (t1 : now ≤ 562949953421312) (s0 : 0 ≤ s) (s1 : s < 65536) : (newR now p i s).ok :=
  ⟨s0, s1, by show (0 : Int) ≤ 0 + 1; omega, by show (0 : Int) + 1 ≤ 4; omega, by show (0 : Int) ≤ now + 2000 * 2 ^ (0 : Int).toNat; simp; omega, by show now + 2000 * 2 ^ (0 : Int).toNat ≤ 1125899906842624; simp; omega⟩
theorem ask_nil (now : Int) (p : Pr) (i : Id8) (s : Int) (w : World) : Calls Try.prog 13 #[.pointer none, .int .i64 now, (Value.agg (qcells p).toArray), idV i, .int .u16 s] w (Gives w (.tuple #[.bool false, .int .i64 7])) := by
  obtain ⟨hB, r0, r1⟩ := low_rows w (qcells p) (icells i) 38 40
  go_enter Try.func13, Try.ntmps13
  go_wp2_with fail
  go_ret2
  exact ⟨rfl, hB⟩
set_option maxHeartbeats 8000000 in
theorem ask_any {w : World} {t mb : Nat} {most : Int} {L : List Sr} (h : Tb w t mb most L) (now : Int) (p : Pr) (i : Id8) (s : Int) (hi : wfQ p) (t0 : 0 ≤ now) (t1 : now ≤ 562949953421312) (s0 : 0 ≤ s) (s1 : s < 65536) (hl : L.length < 1000000) :
    Calls Try.prog 13 #[.pointer (some ⟨t, 0, none⟩), .int .i64 now, (Value.agg (qcells p).toArray), idV i, .int .u16 s] w fun e w' => e = .returned (.tuple #[.bool (askB most L p i s), .int .i64 (askE most L p i)]) ∧ Turn w w' t mb most (askL most L now p i s) := by
  obtain ⟨hB, r0, r1⟩ := low_rows w (qcells p) (icells i) 38 40
  have hs1 := r1.lt
  have hX : ∀ W, Below w.heap.size w W → Tb W t mb most L := fun W hW => h.below hW
  have hfin : ∀ W, Below w.heap.size w W → Calls Try.prog 29 #[.pointer (some ⟨t, 0, none⟩), sV (newR now p i s)] W fun e w' => e = .returned (.tuple #[]) ∧ Turn w w' t mb most (putN L (newR now p i s)) := fun W hW => by
    refine (put_any (h.below hW) (newR now p i s) hi (newR_ok t0 t1 s0 s1) (by have := putN_le (L := L) (n := newR now p i s); omega)).mono ?_
    rintro e w' ⟨rfl, hT⟩
    exact ⟨rfl, hT.pre hW⟩
  have hse : ∀ W, Calls Try.prog 30 #[sV ⟨p, i, s, 0, 0⟩, .int .i64 now] W (Gives W (sV (newR now p i s))) := fun W => sent_any ⟨p, i, s, 0, 0⟩ now W t0 (by omega) (by show (0 : Int) ≤ 0; omega) (by show (0 : Int) < 4; omega)
  have hlk : ∀ W, Below w.heap.size w W → (Instr.lookup 68 (.map (some mb)) (kV p i) true).run Try.prog W = .ok (getV (getN L p i)) W := fun W hW => (h.map.below hW h.map.lt).look hi i
  have HT : Hid (Tb w t mb most L) := h
  have HR : Hid (askL most L now p i s = if askB most L p i s = true then putN L (newR now p i s) else L) := rfl
  have HB : Hid (askB most L p i s = match getN L p i with | some n => Sn.lessB n.s s | none => decide ((L.length : Int) < most)) := rfl
  have HE : Hid (askE most L p i = match getN L p i with | some _ => 0 | none => if most ≤ (L.length : Int) then 6 else 0) := rfl
  clear h t0 t1 s0 s1 hl hi
  generalize askL most L now p i s = R at *
  generalize askB most L p i s = RB at *
  generalize askE most L p i = RE at *
  generalize putN L (newR now p i s) = PL at *
  generalize newR now p i s = nr at *
  generalize getN L p i = G at *
  have hv : getV G = .tuple #[sV (G.getD zeroS), .bool G.isSome] := rfl
  rw [hv] at hlk
  clear hv
  have HG : Hid (∀ n, G = some n → G.getD zeroS = n) := fun n hn => by subst hn; rfl
  generalize hx : G.getD zeroS = x at *
  generalize hb : G.isSome = b at *
  go_enter Try.func13, Try.ntmps13
  go_upto_region 3 with fail
  refine name_world (R := fun W => Code.wp _ _ _ _ W) (P := fun W => Below w.heap.size w W ∧ Row W w.heap.size 38 (qcells p) ∧ Row W (w.heap.size + 1) 40 (icells i)) _ ⟨hB, r0, r1⟩ ?_
  clear hB r0 r1 hs1
  rintro X ⟨hB, r0, r1⟩
  have h0 := r0.lt
  have h1 := r1.lt
  replace hlk : ∀ W, Below X.heap.size X W → (Instr.lookup 68 (.map (some mb)) (kV p i) true).run Try.prog W = .ok (.tuple #[sV x, .bool b]) W := fun W hW => hlk W (bt hB hW)
  have HK : ∀ W, Below X.heap.size X W → W.cell? ⟨t, 1, none⟩ = some (.map (some mb)) := fun W hW => (hX W (bt hB hW)).row.cell 1
  have HX : Hid (∀ W, Below w.heap.size w W → Tb W t mb most L) := hX
  clear hX
  refine wp_region_noPanic ?_
  refine wp_region_held_drew (S := fun W => Below X.heap.size X W) (by kernel_rfl) ((Below.refl _ _).drew) (fun hHeld => ?_)
  refine take_lit (i := 0) (v := ?_) rfl (by kernel_rfl) (by kernel_rfl) (by kernel_rfl) (fun _ _ _ h => h) (Or.inl ⟨by rfl, ?_⟩) (by assumption) ?_
  rotate_left
  · (intro w hSw; (try dsimp only at hSw); go_simp <;> with_reducible rfl)
  try simp only [Act.put, List.setIfInBounds_toArray, List.set_cons_zero, List.set_cons_succ]
  refine take_lit (i := 1) (v := ?_) rfl (by kernel_rfl) (by kernel_rfl) (by kernel_rfl) (fun _ _ _ h => h) (Or.inl ⟨by rfl, ?_⟩) (by assumption) ?_
  rotate_left
  · (intro w hSw; (try dsimp only at hSw); go_simp <;> with_reducible rfl)
  try simp only [Act.put, List.setIfInBounds_toArray, List.set_cons_zero, List.set_cons_succ]
  refine take_lit (i := 2) (v := ?_) rfl (by kernel_rfl) (by kernel_rfl) (by kernel_rfl) (fun _ _ _ h => h) (Or.inl ⟨by rfl, ?_⟩) (by assumption) ?_
  rotate_left
  · (intro w hSw; (try dsimp only at hSw); go_simp <;> with_reducible rfl)
  try simp only [Act.put, List.setIfInBounds_toArray, List.set_cons_zero, List.set_cons_succ]
  refine take_lit (i := 3) (v := ?_) rfl (by kernel_rfl) (by kernel_rfl) (by kernel_rfl) (fun _ _ _ h => h) (Or.inl ⟨by rfl, ?_⟩) (by assumption) ?_
  rotate_left
  · (intro w hSw; (try dsimp only at hSw); have z := HK _ hSw; go_simp <;> with_reducible rfl)
  try simp only [Act.put, List.setIfInBounds_toArray, List.set_cons_zero, List.set_cons_succ]
  refine take_lit (i := 4) rfl (by kernel_rfl) (by kernel_rfl) (by kernel_rfl) (fun _ _ _ h => h) (yQ p (fun w h => (r0.below h h0).range) (by rfl) rfl rfl) (by assumption) ?_
  try simp only [Act.put, List.setIfInBounds_toArray, List.set_cons_zero, List.set_cons_succ]
  refine take_lit (i := 5) rfl (by kernel_rfl) (by kernel_rfl) (by kernel_rfl) (fun _ _ _ h => h) (yI i (fun w h => (r1.below h h1).range) (by rfl) rfl rfl) (by assumption) ?_
  try simp only [Act.put, List.setIfInBounds_toArray, List.set_cons_zero, List.set_cons_succ]
  refine take_lit (i := 6) rfl (by kernel_rfl) (by kernel_rfl) (by kernel_rfl) (fun _ _ _ h => h) (yB (v := kV p i) [(0, .tmp 21), (1, .tmp 22)] (by rfl) rfl (fun w => bdK p i w)) (by assumption) ?_
  try simp only [Act.put, List.setIfInBounds_toArray, List.set_cons_zero, List.set_cons_succ]
  refine take_lit (i := 7) (v := ?_) rfl (by kernel_rfl) (by kernel_rfl) (by kernel_rfl) (fun _ _ _ h => h) (Or.inl ⟨by rfl, ?_⟩) (by assumption) ?_
  rotate_left
  · (intro w hSw; (try dsimp only at hSw); have z := hlk _ hSw; go_simp <;> with_reducible rfl)
  try simp only [Act.put, List.setIfInBounds_toArray, List.set_cons_zero, List.set_cons_succ]
  refine take_lit (i := 8) (v := ?_) rfl (by kernel_rfl) (by kernel_rfl) (by kernel_rfl) (fun _ _ _ h => h) (Or.inl ⟨by rfl, ?_⟩) (by assumption) ?_
  rotate_left
  · (intro w hSw; (try dsimp only at hSw); go_simp <;> with_reducible rfl)
  try simp only [Act.put, List.setIfInBounds_toArray, List.set_cons_zero, List.set_cons_succ]
  refine take_lit (i := 9) (v := ?_) rfl (by kernel_rfl) (by kernel_rfl) (by kernel_rfl) (fun _ _ _ h => h) (Or.inl ⟨by rfl, ?_⟩) (by assumption) ?_
  rotate_left
  · (intro w hSw; (try dsimp only at hSw); go_simp <;> with_reducible rfl)
  try simp only [Act.put, List.setIfInBounds_toArray, List.set_cons_zero, List.set_cons_succ]
  refine take_lit (i := 10) (v := ?_) rfl (by kernel_rfl) (by kernel_rfl) (by kernel_rfl) (fun _ _ _ h => h) (Or.inl ⟨by rfl, ?_⟩) (by assumption) ?_
  rotate_left
  · (intro w hSw; (try dsimp only at hSw); go_simp <;> with_reducible rfl)
  try simp only [Act.put, List.setIfInBounds_toArray, List.set_cons_zero, List.set_cons_succ]
  refine wpAnyH_ready (rs := [11]) (by kernel_rfl) (by simp) ?_
  refine cons_lit rfl (fun K hK => ?_) ?_
  · skip
    refine sAlG infoSz (by rfl) rfl ?_
    intro g2 W2 hge2 hgl2 hB2 hr2
    refine hK.out _ _ ?_ (fun hHeld => ?_)
    · exact bt hHeld hB2
    clear hK K
    try simp only [Act.put, List.setIfInBounds_toArray, List.set_cons_zero, List.set_cons_succ]
    refine wpAnyH_ready (rs := [12]) (by kernel_rfl) (by simp) ?_
    refine cons_lit rfl (fun K hK => ?_) ?_
    · skip
      refine sStS (.tmp 12) (.tmp 25) (by rfl) rfl g2 x _ rfl rfl hr2 ?_
      intro W3 hg3 hr3
      refine hK.out _ _ ?_ (fun hHeld => ?_)
      · exact grown_below hg3 hHeld (show X.heap.size ≤ g2 from hge2) hHeld.size
      clear hK K
      try simp only [Act.put, List.setIfInBounds_toArray, List.set_cons_zero, List.set_cons_succ]
      refine take_lit (i := 13) (v := ?_) rfl (by kernel_rfl) (by kernel_rfl) (by kernel_rfl) (fun _ _ _ h => h) (Or.inl ⟨by rfl, ?_⟩) (by assumption) ?_
      rotate_left
      · (intro w hSw; (try dsimp only at hSw); go_simp <;> with_reducible rfl)
      try simp only [Act.put, List.setIfInBounds_toArray, List.set_cons_zero, List.set_cons_succ]
      refine wpAnyH_done (by kernel_rfl) ?_ _
      refine NoPanic.normal ?_
      refine name_world (R := fun W => Exit.then _ _ _ _ W) (P := fun W => Below X.heap.size X W ∧ Row W g2 67 (scs x)) _ ⟨hHeld, hr3⟩ ?_
      clear hHeld hr3 hg3 hr2 hB2 hgl2 hge2
      rintro W4 ⟨hb4, q2⟩
      have b4 := bt hB hb4
      have r04 := r0.below hb4 h0
      have r14 := r1.below hb4 h1
      clear hlk HK r0 r1 hb4 h0 h1
      cases G with
      | none =>
        obtain rfl : b = false := hb.symm
        replace HB : Hid (RB = decide ((L.length : Int) < most)) := HB.out
        replace HE : Hid (RE = if most ≤ (L.length : Int) then 6 else 0) := HE.out
        have k0 := r04.lt
        have k1 := r14.lt
        have HW : ∀ W, Below W4.heap.size W4 W → W.cell? ⟨t, 1, none⟩ = some (.map (some mb)) ∧ W.cell? ⟨t, 0, none⟩ = some (.int .i64 most) ∧ ∀ ty, (Builtin.len_ #[68] ty #[.map (some mb)]).run Try.prog W = .ok (.int .i64 (L.length : Nat)) W := fun W hW => by
          have hr := HX.out W (bt b4 hW)
          exact ⟨hr.row.cell 1, hr.row.cell 0, fun ty => hr.map.len ty⟩
        have HLT : Hid (∀ W, Below W4.heap.size W4 W → Turn w W t mb most L) := fun W hW => Turn.of HT.out (bt b4 hW)
        have HF : Hid (∀ W, Below W4.heap.size W4 W → Calls Try.prog 29 #[.pointer (some ⟨t, 0, none⟩), sV nr] W fun e w' => e = .returned (.tuple #[]) ∧ Turn w w' t mb most PL) := fun W hW => hfin W (bt b4 hW)
        clear HX HT hfin hb HG hx q2
        generalize hN : L.length = N at *
        go_upto_region 6 with fail
        refine wp_region_noPanic ?_
        refine wp_region_held_drew (S := fun W => Below W4.heap.size W4 W) (by kernel_rfl) ((Below.refl _ _).drew) (fun hHeld => ?_)
        refine take_lit (i := 0) (v := ?_) rfl (by kernel_rfl) (by kernel_rfl) (by kernel_rfl) (fun _ _ _ h => h) (Or.inl ⟨by rfl, ?_⟩) (by assumption) ?_
        rotate_left
        · (intro w hSw; (try dsimp only at hSw); go_simp <;> with_reducible rfl)
        try simp only [Act.put, List.setIfInBounds_toArray, List.set_cons_zero, List.set_cons_succ]
        refine take_lit (i := 1) (v := ?_) rfl (by kernel_rfl) (by kernel_rfl) (by kernel_rfl) (fun _ _ _ h => h) (Or.inl ⟨by rfl, ?_⟩) (by assumption) ?_
        rotate_left
        · (intro w hSw; (try dsimp only at hSw); go_simp <;> with_reducible rfl)
        try simp only [Act.put, List.setIfInBounds_toArray, List.set_cons_zero, List.set_cons_succ]
        refine take_lit (i := 2) (v := ?_) rfl (by kernel_rfl) (by kernel_rfl) (by kernel_rfl) (fun _ _ _ h => h) (Or.inl ⟨by rfl, ?_⟩) (by assumption) ?_
        rotate_left
        · (intro w hSw; (try dsimp only at hSw); go_simp <;> with_reducible rfl)
        try simp only [Act.put, List.setIfInBounds_toArray, List.set_cons_zero, List.set_cons_succ]
        refine take_lit (i := 3) (v := ?_) rfl (by kernel_rfl) (by kernel_rfl) (by kernel_rfl) (fun _ _ _ h => h) (Or.inl ⟨by rfl, ?_⟩) (by assumption) ?_
        rotate_left
        · (intro w hSw; (try dsimp only at hSw); go_simp <;> with_reducible rfl)
        try simp only [Act.put, List.setIfInBounds_toArray, List.set_cons_zero, List.set_cons_succ]
        refine take_lit (i := 4) (v := ?_) rfl (by kernel_rfl) (by kernel_rfl) (by kernel_rfl) (fun _ _ _ h => h) (Or.inl ⟨by rfl, ?_⟩) (by assumption) ?_
        rotate_left
        · (intro w hSw; (try dsimp only at hSw); go_simp <;> with_reducible rfl)
        try simp only [Act.put, List.setIfInBounds_toArray, List.set_cons_zero, List.set_cons_succ]
        refine take_lit (i := 5) (v := ?_) rfl (by kernel_rfl) (by kernel_rfl) (by kernel_rfl) (fun _ _ _ h => h) (Or.inl ⟨by rfl, ?_⟩) (by assumption) ?_
        rotate_left
        · (intro w hSw; (try dsimp only at hSw); go_simp <;> with_reducible rfl)
        try simp only [Act.put, List.setIfInBounds_toArray, List.set_cons_zero, List.set_cons_succ]
        refine take_lit (i := 6) (v := ?_) rfl (by kernel_rfl) (by kernel_rfl) (by kernel_rfl) (fun _ _ _ h => h) (Or.inl ⟨by rfl, ?_⟩) (by assumption) ?_
        rotate_left
        · (intro w hSw; (try dsimp only at hSw); have z := (HW _ hSw).1; go_simp <;> with_reducible rfl)
        try simp only [Act.put, List.setIfInBounds_toArray, List.set_cons_zero, List.set_cons_succ]
        refine take_lit (i := 7) (v := ?_) rfl (by kernel_rfl) (by kernel_rfl) (by kernel_rfl) (fun _ _ _ h => h) (Or.inl ⟨by rfl, ?_⟩) (by assumption) ?_
        rotate_left
        · (intro w hSw; (try dsimp only at hSw); have z := (HW _ hSw).2.2; go_simp <;> with_reducible rfl)
        try simp only [Act.put, List.setIfInBounds_toArray, List.set_cons_zero, List.set_cons_succ]
        refine take_lit (i := 8) (v := ?_) rfl (by kernel_rfl) (by kernel_rfl) (by kernel_rfl) (fun _ _ _ h => h) (Or.inl ⟨by rfl, ?_⟩) (by assumption) ?_
        rotate_left
        · (intro w hSw; (try dsimp only at hSw); go_simp <;> with_reducible rfl)
        try simp only [Act.put, List.setIfInBounds_toArray, List.set_cons_zero, List.set_cons_succ]
        refine take_lit (i := 9) (v := ?_) rfl (by kernel_rfl) (by kernel_rfl) (by kernel_rfl) (fun _ _ _ h => h) (Or.inl ⟨by rfl, ?_⟩) (by assumption) ?_
        rotate_left
        · (intro w hSw; (try dsimp only at hSw); go_simp <;> with_reducible rfl)
        try simp only [Act.put, List.setIfInBounds_toArray, List.set_cons_zero, List.set_cons_succ]
        refine take_lit (i := 10) (v := ?_) rfl (by kernel_rfl) (by kernel_rfl) (by kernel_rfl) (fun _ _ _ h => h) (Or.inl ⟨by rfl, ?_⟩) (by assumption) ?_
        rotate_left
        · (intro w hSw; (try dsimp only at hSw); go_simp <;> with_reducible rfl)
        try simp only [Act.put, List.setIfInBounds_toArray, List.set_cons_zero, List.set_cons_succ]
        refine take_lit (i := 11) (v := ?_) rfl (by kernel_rfl) (by kernel_rfl) (by kernel_rfl) (fun _ _ _ h => h) (Or.inl ⟨by rfl, ?_⟩) (by assumption) ?_
        rotate_left
        · (intro w hSw; (try dsimp only at hSw); have z := (HW _ hSw).2.1; go_simp <;> with_reducible rfl)
        try simp only [Act.put, List.setIfInBounds_toArray, List.set_cons_zero, List.set_cons_succ]
        refine take_lit (i := 12) (v := ?_) rfl (by kernel_rfl) (by kernel_rfl) (by kernel_rfl) (fun _ _ _ h => h) (Or.inl ⟨by rfl, ?_⟩) (by assumption) ?_
        rotate_left
        · (intro w hSw; (try dsimp only at hSw); go_simp <;> with_reducible rfl)
        try simp only [Act.put, List.setIfInBounds_toArray, List.set_cons_zero, List.set_cons_succ]
        refine take_lit (i := 13) (v := ?_) rfl (by kernel_rfl) (by kernel_rfl) (by kernel_rfl) (fun _ _ _ h => h) (Or.inl ⟨by rfl, ?_⟩) (by assumption) ?_
        rotate_left
        · (intro w hSw; (try dsimp only at hSw); go_simp <;> with_reducible rfl)
        try simp only [Act.put, List.setIfInBounds_toArray, List.set_cons_zero, List.set_cons_succ]
        refine wpAnyH_done (by kernel_rfl) ?_ _
        refine NoPanic.normal ?_
        refine name_world (R := fun W => Exit.then _ _ _ _ W) (P := fun W => Below W4.heap.size W4 W) _ hHeld ?_
        clear hHeld
        intro W5 b5
        have r05 := r04.below b5 k0
        have r15 := r14.below b5 k1
        by_cases hm : most ≤ (N : Int)
        · obtain rfl : RE = 6 := by rw [HE.out, if_pos hm]
          obtain rfl : RB = false := by rw [HB.out]; simp; omega
          obtain rfl : R = L := by rw [HR.out]; rfl
          clear hse
          go_wp2_with fail
          go_ret2
          exact ⟨rfl, HLT.out _ b5⟩
        · obtain rfl : RE = 0 := by rw [HE.out, if_neg hm]
          obtain rfl : RB = true := by rw [HB.out]; simp; omega
          obtain rfl : R = PL := by rw [HR.out]; rfl
          have hm2 : (N : Int) < most := by omega
          clear hm HLT
          go_wp2_with (first
            | (go_at_call 29; refine (HF.out _ b6).mono ?_; rintro e w7 ⟨rfl, hT⟩)
            | (go_at_call 30; refine (hse _).mono ?_; rintro e w6 ⟨rfl, b6'⟩; have b6 := bt b5 b6')
            | ((with_reducible refine bdG (T := 67) (v := sV ⟨p, i, s, 0, 0⟩) [(0, .tmp 50), (1, .tmp 51), (2, .tmp 52)] ?_ ?_ ?_ ?_); (focus rfl); (focus rfl); (focus exact bdSr p i s _))
            | (refine ldI (.tmp 8) rfl rfl _ _ i rfl r15.range ?_)
            | (refine ldQ (.tmp 7) rfl rfl _ _ p rfl r05.range ?_))
          go_ret2
          exact ⟨rfl, hT⟩
      | some n =>
        obtain rfl : b = true := hb.symm
        obtain rfl : n = x := hx
        clear HG
        replace HB : Hid (RB = Sn.lessB n.s s) := HB.out
        obtain rfl : RE = 0 := HE.out
        have HF : Hid (∀ W, Below W4.heap.size W4 W → Calls Try.prog 29 #[.pointer (some ⟨t, 0, none⟩), sV nr] W fun e w' => e = .returned (.tuple #[]) ∧ Turn w w' t mb most PL) := fun W hW => hfin W (bt b4 hW)
        have HLT : Hid (Turn w W4 t mb most L) := Turn.of HT.out b4
        have c42 := (q2.cell 42).trans (sc42 n)
        clear HX HT hfin q2
        have hle : Sn.lessB n.s s = RB := HB.out.symm
        have hL := Sn.less_any n.s s W4
        rw [hle] at hL
        clear hle HB
        cases RB with
        | false =>
          obtain rfl : R = L := by rw [HR.out]; rfl
          clear HF hse
          go_wp2_with (first
            | (go_at_call 26; refine hL.mono ?_; rintro e w5 ⟨rfl, rfl⟩))
          go_ret2
          exact ⟨rfl, HLT.out⟩
        | true =>
          obtain rfl : R = PL := by rw [HR.out]; rfl
          clear HLT
          go_upto_region 6 with (first
            | (go_at_call 26; refine hL.mono ?_; rintro e w5 ⟨rfl, rfl⟩))
          have k0 := r04.lt
          have k1 := r14.lt
          refine wp_region_noPanic ?_
          refine wp_region_held_drew (S := fun W => Below W4.heap.size W4 W) (by kernel_rfl) ((Below.refl _ _).drew) (fun hHeld => ?_)
          refine take_lit (i := 0) (v := ?_) rfl (by kernel_rfl) (by kernel_rfl) (by kernel_rfl) (fun _ _ _ h => h) (Or.inl ⟨by rfl, ?_⟩) (by assumption) ?_
          rotate_left
          · (intro w hSw; (try dsimp only at hSw); go_simp <;> with_reducible rfl)
          try simp only [Act.put, List.setIfInBounds_toArray, List.set_cons_zero, List.set_cons_succ]
          refine take_lit (i := 1) (v := ?_) rfl (by kernel_rfl) (by kernel_rfl) (by kernel_rfl) (fun _ _ _ h => h) (Or.inl ⟨by rfl, ?_⟩) (by assumption) ?_
          rotate_left
          · (intro w hSw; (try dsimp only at hSw); go_simp <;> with_reducible rfl)
          try simp only [Act.put, List.setIfInBounds_toArray, List.set_cons_zero, List.set_cons_succ]
          refine take_lit (i := 2) (v := ?_) rfl (by kernel_rfl) (by kernel_rfl) (by kernel_rfl) (fun _ _ _ h => h) (Or.inl ⟨by rfl, ?_⟩) (by assumption) ?_
          rotate_left
          · (intro w hSw; (try dsimp only at hSw); go_simp <;> with_reducible rfl)
          try simp only [Act.put, List.setIfInBounds_toArray, List.set_cons_zero, List.set_cons_succ]
          refine take_lit (i := 3) rfl (by kernel_rfl) (by kernel_rfl) (by kernel_rfl) (fun _ _ _ h => h) (Or.inr ⟨by rfl, rfl⟩) (by assumption) ?_
          try simp only [Act.put, List.setIfInBounds_toArray, List.set_cons_zero, List.set_cons_succ]
          refine take_lit (i := 4) rfl (by kernel_rfl) (by kernel_rfl) (by kernel_rfl) (fun _ _ _ h => h) (Or.inr ⟨by rfl, rfl⟩) (by assumption) ?_
          try simp only [Act.put, List.setIfInBounds_toArray, List.set_cons_zero, List.set_cons_succ]
          refine take_lit (i := 5) rfl (by kernel_rfl) (by kernel_rfl) (by kernel_rfl) (fun _ _ _ h => h) (Or.inr ⟨by rfl, rfl⟩) (by assumption) ?_
          try simp only [Act.put, List.setIfInBounds_toArray, List.set_cons_zero, List.set_cons_succ]
          refine take_lit (i := 6) rfl (by kernel_rfl) (by kernel_rfl) (by kernel_rfl) (fun _ _ _ h => h) (Or.inr ⟨by rfl, rfl⟩) (by assumption) ?_
          try simp only [Act.put, List.setIfInBounds_toArray, List.set_cons_zero, List.set_cons_succ]
          refine take_lit (i := 7) rfl (by kernel_rfl) (by kernel_rfl) (by kernel_rfl) (fun _ _ _ h => h) (Or.inr ⟨by rfl, rfl⟩) (by assumption) ?_
          try simp only [Act.put, List.setIfInBounds_toArray, List.set_cons_zero, List.set_cons_succ]
          refine take_lit (i := 8) rfl (by kernel_rfl) (by kernel_rfl) (by kernel_rfl) (fun _ _ _ h => h) (Or.inr ⟨by rfl, rfl⟩) (by assumption) ?_
          try simp only [Act.put, List.setIfInBounds_toArray, List.set_cons_zero, List.set_cons_succ]
          refine take_lit (i := 9) rfl (by kernel_rfl) (by kernel_rfl) (by kernel_rfl) (fun _ _ _ h => h) (Or.inr ⟨by rfl, rfl⟩) (by assumption) ?_
          try simp only [Act.put, List.setIfInBounds_toArray, List.set_cons_zero, List.set_cons_succ]
          refine take_lit (i := 10) rfl (by kernel_rfl) (by kernel_rfl) (by kernel_rfl) (fun _ _ _ h => h) (Or.inr ⟨by rfl, rfl⟩) (by assumption) ?_
          try simp only [Act.put, List.setIfInBounds_toArray, List.set_cons_zero, List.set_cons_succ]
          refine take_lit (i := 11) rfl (by kernel_rfl) (by kernel_rfl) (by kernel_rfl) (fun _ _ _ h => h) (Or.inr ⟨by rfl, rfl⟩) (by assumption) ?_
          try simp only [Act.put, List.setIfInBounds_toArray, List.set_cons_zero, List.set_cons_succ]
          refine take_lit (i := 12) rfl (by kernel_rfl) (by kernel_rfl) (by kernel_rfl) (fun _ _ _ h => h) (Or.inr ⟨by rfl, rfl⟩) (by assumption) ?_
          try simp only [Act.put, List.setIfInBounds_toArray, List.set_cons_zero, List.set_cons_succ]
          refine take_lit (i := 13) (v := ?_) rfl (by kernel_rfl) (by kernel_rfl) (by kernel_rfl) (fun _ _ _ h => h) (Or.inl ⟨by rfl, ?_⟩) (by assumption) ?_
          rotate_left
          · (intro w hSw; (try dsimp only at hSw); go_simp <;> with_reducible rfl)
          try simp only [Act.put, List.setIfInBounds_toArray, List.set_cons_zero, List.set_cons_succ]
          refine wpAnyH_done (by kernel_rfl) ?_ _
          refine NoPanic.normal ?_
          refine name_world (R := fun W => Exit.then _ _ _ _ W) (P := fun W => Below W4.heap.size W4 W) _ hHeld ?_
          clear hHeld
          intro W5 b5
          have r05 := r04.below b5 k0
          have r15 := r14.below b5 k1
          go_wp2_with (first
            | (go_at_call 29; refine (HF.out _ b6).mono ?_; rintro e w7 ⟨rfl, hT⟩)
            | (go_at_call 30; refine (hse _).mono ?_; rintro e w6 ⟨rfl, b6'⟩; have b6 := bt b5 b6')
            | ((with_reducible refine bdG (T := 67) (v := sV ⟨p, i, s, 0, 0⟩) [(0, .tmp 50), (1, .tmp 51), (2, .tmp 52)] ?_ ?_ ?_ ?_); (focus rfl); (focus rfl); (focus exact bdSr p i s _))
            | (refine ldI (.tmp 8) rfl rfl _ _ i rfl r15.range ?_)
            | (refine ldQ (.tmp 7) rfl rfl _ _ p rfl r05.range ?_))
          go_ret2
          exact ⟨rfl, hT⟩
    exact AllReadyH.nil
  exact AllReadyH.nil
theorem low_rows3 (w : World) (cs ds es : List Value) (t u v : TypeId) : Below w.heap.size w (((w.alloc (.cells cs.toArray t)).alloc (.cells ds.toArray u)).alloc (.cells es.toArray v)) ∧ Row (((w.alloc (.cells cs.toArray t)).alloc (.cells ds.toArray u)).alloc (.cells es.toArray v)) w.heap.size t cs ∧ Row (((w.alloc (.cells cs.toArray t)).alloc (.cells ds.toArray u)).alloc (.cells es.toArray v)) (w.heap.size + 1) u ds ∧ Row (((w.alloc (.cells cs.toArray t)).alloc (.cells ds.toArray u)).alloc (.cells es.toArray v)) (w.heap.size + 2) v es := by
  obtain ⟨h0, h1, h2⟩ := low_rows w cs ds t u
  have q := Row.new ((w.alloc (.cells cs.toArray t)).alloc (.cells ds.toArray u)) v es
  simp only [World.size_alloc] at q
  exact ⟨bt h0 (ba _ _), h1.alloc _, h2.alloc _, q⟩
/-- Whether a distance answers a request that is kept. -/
def metB (L : List Sr) (p : Pr) (i : Id8) (a b : Int) : Bool := match getN L p i with | some n => Sn.Met a b n.s | none => false
def metL (L : List Sr) (p : Pr) (i : Id8) (a b : Int) : List Sr := if metB L p i a b = true then delN L p i else L
theorem met_nil (p : Pr) (i : Id8) (a b : Int) (w : World) : Calls Try.prog 16 #[.pointer none, (Value.agg (qcells p).toArray), idV i, dV a b] w (Gives w (.bool false)) := by
  obtain ⟨hB, r0, r1, r2⟩ := low_rows3 w (qcells p) (icells i) [.int .u16 a, .int .u16 b] 38 40 42
  go_enter Try.func16, Try.ntmps16
  go_wp2_with fail
  go_ret
  exact ⟨rfl, hB⟩
set_option maxHeartbeats 8000000 in
theorem met_any {w : World} {t mb : Nat} {most : Int} {L : List Sr} (h : Tb w t mb most L) (p : Pr) (i : Id8) (a b : Int) (hi : wfQ p) :
    Calls Try.prog 16 #[.pointer (some ⟨t, 0, none⟩), (Value.agg (qcells p).toArray), idV i, dV a b] w fun e w' => e = .returned (.bool (metB L p i a b)) ∧ Turn w w' t mb most (metL L p i a b) := by
  obtain ⟨hB, r0, r1, r2⟩ := low_rows3 w (qcells p) (icells i) [.int .u16 a, .int .u16 b] 38 40 42
  have hs1 := r2.lt
  have hX : ∀ W, Below w.heap.size w W → Tb W t mb most L := fun W hW => h.below hW
  have hfin : Hid (∀ n, getN L p i = some n → ∀ W, Below w.heap.size w W → Calls Try.prog 35 #[.pointer (some ⟨t, 0, none⟩), sV n] W fun e w' => e = .returned (.tuple #[]) ∧ Turn w w' t mb most (delN L p i)) := fun n hn W hW => by
    obtain ⟨hm, e1, e2⟩ := getN_some hn
    refine (remove_any (h.below hW) n (by rw [e1]; exact hi)).mono ?_
    rw [e1, e2]
    rintro e w' ⟨rfl, hT⟩
    exact ⟨rfl, hT.pre hW⟩
  have hlk : ∀ W, Below w.heap.size w W → (Instr.lookup 68 (.map (some mb)) (kV p i) true).run Try.prog W = .ok (getV (getN L p i)) W := fun W hW => (h.map.below hW h.map.lt).look hi i
  have HT : Hid (Tb w t mb most L) := h
  have HR : Hid (metL L p i a b = if metB L p i a b = true then delN L p i else L) := rfl
  have HB : Hid (metB L p i a b = match getN L p i with | some n => Sn.Met a b n.s | none => false) := rfl
  clear h hi
  generalize metL L p i a b = R at *
  generalize metB L p i a b = RB at *
  generalize delN L p i = PL at *
  generalize getN L p i = G at *
  have hv : getV G = .tuple #[sV (G.getD zeroS), .bool G.isSome] := rfl
  rw [hv] at hlk
  clear hv
  generalize hx : G.getD zeroS = x at *
  generalize hb : G.isSome = bb at *
  go_enter Try.func16, Try.ntmps16
  go_upto_region 3 with fail
  refine name_world (R := fun W => Code.wp _ _ _ _ W) (P := fun W => Below w.heap.size w W ∧ Row W w.heap.size 38 (qcells p) ∧ Row W (w.heap.size + 1) 40 (icells i) ∧ Row W (w.heap.size + 2) 42 [.int .u16 a, .int .u16 b]) _ ⟨hB, r0, r1, r2⟩ ?_
  clear hB r0 r1 r2 hs1
  rintro X ⟨hB, r0, r1, r2⟩
  have h0 := r0.lt
  have h1 := r1.lt
  have h2 := r2.lt
  replace hlk : ∀ W, Below X.heap.size X W → (Instr.lookup 68 (.map (some mb)) (kV p i) true).run Try.prog W = .ok (.tuple #[sV x, .bool bb]) W := fun W hW => hlk W (bt hB hW)
  have HK : ∀ W, Below X.heap.size X W → W.cell? ⟨t, 1, none⟩ = some (.map (some mb)) := fun W hW => (hX W (bt hB hW)).row.cell 1
  clear hX
  refine wp_region_noPanic ?_
  refine wp_region_held_drew (S := fun W => Below X.heap.size X W) (by kernel_rfl) ((Below.refl _ _).drew) (fun hHeld => ?_)
  refine take_lit (i := 0) (v := ?_) rfl (by kernel_rfl) (by kernel_rfl) (by kernel_rfl) (fun _ _ _ h => h) (Or.inl ⟨by rfl, ?_⟩) (by assumption) ?_
  rotate_left
  · (intro w hSw; (try dsimp only at hSw); go_simp <;> with_reducible rfl)
  try simp only [Act.put, List.setIfInBounds_toArray, List.set_cons_zero, List.set_cons_succ]
  refine take_lit (i := 1) (v := ?_) rfl (by kernel_rfl) (by kernel_rfl) (by kernel_rfl) (fun _ _ _ h => h) (Or.inl ⟨by rfl, ?_⟩) (by assumption) ?_
  rotate_left
  · (intro w hSw; (try dsimp only at hSw); go_simp <;> with_reducible rfl)
  try simp only [Act.put, List.setIfInBounds_toArray, List.set_cons_zero, List.set_cons_succ]
  refine take_lit (i := 2) (v := ?_) rfl (by kernel_rfl) (by kernel_rfl) (by kernel_rfl) (fun _ _ _ h => h) (Or.inl ⟨by rfl, ?_⟩) (by assumption) ?_
  rotate_left
  · (intro w hSw; (try dsimp only at hSw); go_simp <;> with_reducible rfl)
  try simp only [Act.put, List.setIfInBounds_toArray, List.set_cons_zero, List.set_cons_succ]
  refine take_lit (i := 3) (v := ?_) rfl (by kernel_rfl) (by kernel_rfl) (by kernel_rfl) (fun _ _ _ h => h) (Or.inl ⟨by rfl, ?_⟩) (by assumption) ?_
  rotate_left
  · (intro w hSw; (try dsimp only at hSw); have z := HK _ hSw; go_simp <;> with_reducible rfl)
  try simp only [Act.put, List.setIfInBounds_toArray, List.set_cons_zero, List.set_cons_succ]
  refine take_lit (i := 4) rfl (by kernel_rfl) (by kernel_rfl) (by kernel_rfl) (fun _ _ _ h => h) (yQ p (fun w h => (r0.below h h0).range) (by rfl) rfl rfl) (by assumption) ?_
  try simp only [Act.put, List.setIfInBounds_toArray, List.set_cons_zero, List.set_cons_succ]
  refine take_lit (i := 5) rfl (by kernel_rfl) (by kernel_rfl) (by kernel_rfl) (fun _ _ _ h => h) (yI i (fun w h => (r1.below h h1).range) (by rfl) rfl rfl) (by assumption) ?_
  try simp only [Act.put, List.setIfInBounds_toArray, List.set_cons_zero, List.set_cons_succ]
  refine take_lit (i := 6) rfl (by kernel_rfl) (by kernel_rfl) (by kernel_rfl) (fun _ _ _ h => h) (yB (v := kV p i) [(0, .tmp 18), (1, .tmp 19)] (by rfl) rfl (fun w => bdK p i w)) (by assumption) ?_
  try simp only [Act.put, List.setIfInBounds_toArray, List.set_cons_zero, List.set_cons_succ]
  refine take_lit (i := 7) (v := ?_) rfl (by kernel_rfl) (by kernel_rfl) (by kernel_rfl) (fun _ _ _ h => h) (Or.inl ⟨by rfl, ?_⟩) (by assumption) ?_
  rotate_left
  · (intro w hSw; (try dsimp only at hSw); have z := hlk _ hSw; go_simp <;> with_reducible rfl)
  try simp only [Act.put, List.setIfInBounds_toArray, List.set_cons_zero, List.set_cons_succ]
  refine take_lit (i := 8) (v := ?_) rfl (by kernel_rfl) (by kernel_rfl) (by kernel_rfl) (fun _ _ _ h => h) (Or.inl ⟨by rfl, ?_⟩) (by assumption) ?_
  rotate_left
  · (intro w hSw; (try dsimp only at hSw); go_simp <;> with_reducible rfl)
  try simp only [Act.put, List.setIfInBounds_toArray, List.set_cons_zero, List.set_cons_succ]
  refine take_lit (i := 9) (v := ?_) rfl (by kernel_rfl) (by kernel_rfl) (by kernel_rfl) (fun _ _ _ h => h) (Or.inl ⟨by rfl, ?_⟩) (by assumption) ?_
  rotate_left
  · (intro w hSw; (try dsimp only at hSw); go_simp <;> with_reducible rfl)
  try simp only [Act.put, List.setIfInBounds_toArray, List.set_cons_zero, List.set_cons_succ]
  refine take_lit (i := 10) (v := ?_) rfl (by kernel_rfl) (by kernel_rfl) (by kernel_rfl) (fun _ _ _ h => h) (Or.inl ⟨by rfl, ?_⟩) (by assumption) ?_
  rotate_left
  · (intro w hSw; (try dsimp only at hSw); go_simp <;> with_reducible rfl)
  try simp only [Act.put, List.setIfInBounds_toArray, List.set_cons_zero, List.set_cons_succ]
  refine wpAnyH_ready (rs := [11]) (by kernel_rfl) (by simp) ?_
  refine cons_lit rfl (fun K hK => ?_) ?_
  · skip
    refine sAlG infoSz (by rfl) rfl ?_
    intro g2 W2 hge2 hgl2 hB2 hr2
    refine hK.out _ _ ?_ (fun hHeld => ?_)
    · exact bt hHeld hB2
    clear hK K
    try simp only [Act.put, List.setIfInBounds_toArray, List.set_cons_zero, List.set_cons_succ]
    refine wpAnyH_ready (rs := [12]) (by kernel_rfl) (by simp) ?_
    refine cons_lit rfl (fun K hK => ?_) ?_
    · skip
      refine sStS (.tmp 9) (.tmp 22) (by rfl) rfl g2 x _ rfl rfl hr2 ?_
      intro W3 hg3 hr3
      refine hK.out _ _ ?_ (fun hHeld => ?_)
      · exact grown_below hg3 hHeld (show X.heap.size ≤ g2 from hge2) hHeld.size
      clear hK K
      try simp only [Act.put, List.setIfInBounds_toArray, List.set_cons_zero, List.set_cons_succ]
      refine take_lit (i := 13) (v := ?_) rfl (by kernel_rfl) (by kernel_rfl) (by kernel_rfl) (fun _ _ _ h => h) (Or.inl ⟨by rfl, ?_⟩) (by assumption) ?_
      rotate_left
      · (intro w hSw; (try dsimp only at hSw); go_simp <;> with_reducible rfl)
      try simp only [Act.put, List.setIfInBounds_toArray, List.set_cons_zero, List.set_cons_succ]
      refine wpAnyH_done (by kernel_rfl) ?_ _
      refine NoPanic.normal ?_
      refine name_world (R := fun W => Exit.then _ _ _ _ W) (P := fun W => Below X.heap.size X W ∧ Row W g2 67 (scs x)) _ ⟨hHeld, hr3⟩ ?_
      clear hHeld hr3 hg3 hr2 hB2 hgl2 hge2
      rintro W4 ⟨hb4, q2⟩
      have b4 := bt hB hb4
      have r24 := r2.below hb4 h2
      clear hlk HK r0 r1 r2 hb4 h0 h1 h2
      cases G with
      | none =>
        obtain rfl : bb = false := hb.symm
        obtain rfl : RB = false := HB.out
        obtain rfl : R = L := by rw [HR.out]; rfl
        clear HB HR hfin
        go_wp2_with fail
        go_ret
        exact ⟨rfl, Turn.of HT.out b4⟩
      | some n =>
        obtain rfl : bb = true := hb.symm
        obtain rfl : n = x := hx
        have hM : ∀ W, Calls Try.prog 34 #[.agg #[.int .u16 a, .int .u16 b], .int .u16 n.s] W (Gives W (.bool RB)) := fun W => by
          rw [show RB = Sn.Met a b n.s from HB.out]
          exact Sn.meets_any a b n.s W
        have c42 := (q2.cell 42).trans (sc42 n)
        have HF : Hid (∀ W, Below W4.heap.size W4 W → Calls Try.prog 35 #[.pointer (some ⟨t, 0, none⟩), sV n] W fun e w' => e = .returned (.tuple #[]) ∧ Turn w w' t mb most PL) := fun W hW => hfin.out n rfl W (bt b4 hW)
        clear hfin HB
        cases RB with
        | false =>
          obtain rfl : R = L := by rw [HR.out]; rfl
          clear HR HF
          go_wp2_with (first
            | (go_at_call 34; refine (hM _).mono ?_; rintro e w5 ⟨rfl, b5⟩)
            | (refine Sn.ldD (.tmp 7) rfl rfl a b rfl r24.range ?_))
          go_ret
          exact ⟨rfl, Turn.of HT.out (bt b4 b5)⟩
        | true =>
          obtain rfl : R = PL := by rw [HR.out]; rfl
          clear HR
          go_wp2_with (first
            | (go_at_call 35; refine (HF.out _ b5).mono ?_; rintro e w7 ⟨rfl, hT⟩)
            | (have kk := b5; refine ldS (.tmp 9) rfl rfl _ _ n rfl (q2.below b5 q2.lt).sr ?_)
            | (go_at_call 34; refine (hM _).mono ?_; rintro e w5 ⟨rfl, b5⟩)
            | (refine Sn.ldD (.tmp 7) rfl rfl a b rfl r24.range ?_))
          go_ret
          exact ⟨rfl, hT⟩
    exact AllReadyH.nil
  exact AllReadyH.nil
end Go.Proofs.Ytbjclphgabpgoaa
