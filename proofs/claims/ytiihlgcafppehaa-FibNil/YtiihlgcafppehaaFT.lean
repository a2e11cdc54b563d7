/-
  A Fib of one's own, act by act: what 'live' makes of it.
-/
import Derived.Test.YtiihlgcafppehaaFS
import Derived.Test.YtiihlgcafppehaaFM
import Derived.Test.YtiihlgcafppehaaFK
import Derived.Test.YtiihlgcafppehaaFL
namespace Go.Proofs.Ytiihlgcafppehaa
open Go.RowKit Go.Maps Go.Shelf
set_option linter.unusedSimpArgs false
set_option linter.unusedVariables false
set_option maxRecDepth 20000
structure Lv (w0 : World) (f : Nat) (x : Fv) (W H : List En) (A : List (Pr × Int)) (P : List Oq) (w : World) : Prop where
  fb : Fb w f x W H A
  pl : PlX w w0.heap.size x.pl P
  hf : w0.heap.size ≤ f
  hH : w0.heap.size ≤ x.mH
  hA : w0.heap.size ≤ x.mA
  b : Below w0.heap.size w0 w
def Kp (w w' : World) (f : Nat) : Prop := ∀ (g : Nat) (T : TypeId) (cs : List Value), Row w g T cs → g ≠ f → Row w' g T cs
section
variable {w0 w w' : World} {f : Nat} {x y : Fv} {W H W' H' : List En} {A A' : List (Pr × Int)} {P : List Oq}
theorem Lv.ft (h : Lv w0 f x W H A P w) (hF : Fb w' f y W' H' A') (ht : FTurn w w' f x) (e : y.pl = x.pl) (eh : y.mH = x.mH) (ea : y.mA = x.mA) : Lv w0 f y W' H' A' P w' ∧ Kp w w' f :=
  ⟨⟨hF, by rw [e]; exact h.pl.turn ht h.fb, h.hf, by rw [eh]; exact h.hH, by rw [ea]; exact h.hA, ht.below h.b h.hf h.hH h.hA h.b.size⟩, fun g T cs hr hne => ht.row h.fb hr hne⟩
theorem Lv.below (h : Lv w0 f x W H A P w) (hb : Below w.heap.size w w') : Lv w0 f x W H A P w' ∧ Kp w w' f :=
  ⟨⟨h.fb.below hb, h.pl.below hb, h.hf, h.hH, h.hA, bt h.b hb⟩, fun g T cs hr _ => hr.below hb hr.lt⟩
theorem Lv.want1 {ad : Option Addr} {c : Nat} {e : En} (h : Lv w0 f x W H A P w) (hl : EsW w ad [e]) (hf : wfQ e.p) (hk : Fa.chkQ e.p = 0) :
    Calls Try.prog 17 #[.pointer (some ⟨f, 0, none⟩), .slice ad 1 c] w fun e' w' => e' = .returned (.tuple #[]) ∧ ∃ mW, Lv w0 f ⟨mW, x.mH, x.mA, x.d, x.pl, -9223372036854775808⟩ [e] H A P w' ∧ Kp w w' f :=
  (want_one (c := c) h.fb hl hf hk).mono (by rintro e' w' ⟨rfl, mW, _, hB, ht⟩; exact ⟨rfl, mW, h.ft hB ht rfl rfl rfl⟩)
theorem Lv.want0 {ad : Option Addr} {c : Nat} (h : Lv w0 f x W H A P w) :
    Calls Try.prog 17 #[.pointer (some ⟨f, 0, none⟩), .slice ad 0 c] w fun e' w' => e' = .returned (.tuple #[]) ∧ ∃ mW, Lv w0 f ⟨mW, x.mH, x.mA, x.d, x.pl, -9223372036854775808⟩ [] H A P w' ∧ Kp w w' f :=
  (want_none (c := c) (ad := ad) h.fb).mono (by rintro e' w' ⟨rfl, mW, _, hB, ht⟩; exact ⟨rfl, mW, h.ft hB ht rfl rfl rfl⟩)
theorem Lv.reply {now : Int} {ok : Bool} (h : Lv w0 f x W H A P w) (n0 : 0 ≤ now) (n1 : now ≤ 562949953421312) (hk : x.d.k ≠ 0) (hi : wfQ x.d.e.p) (hH : H.length < 1000000) (hA : A.length < 1000000) (y : Fv) (H' : List En) (A' : List (Pr × Int)) (e1 : replF x now ok = y) (e2 : replH H x.d ok = H') (e3 : replA A x.d now ok = A') :
    Calls Try.prog 19 #[.pointer (some ⟨f, 0, none⟩), .int .i64 now, .bool ok] w fun e w' => e = .returned (.int .i64 0) ∧ Lv w0 f y W H' A' P w' ∧ Kp w w' f := by
  subst e1 e2 e3
  exact (reply_do h.fb now ok n0 n1 hk hi hH hA).mono (by rintro e' w' ⟨rfl, hB, ht⟩; exact ⟨rfl, h.ft hB ht rfl rfl rfl⟩)
theorem Lv.nextP {w2 : World} {B : Nat} {op : Oq} {e : Ending} (h : Lv w0 f x W H A P w) (hx : NextP w f w0.heap.size x W H A [op] e w2) : e = .returned (.tuple #[oV op, .bool true]) ∧ ∃ pl', Lv w0 f ⟨x.mW, x.mH, x.mA, op, pl', x.ti⟩ W H A [] w2 ∧ Kp w w2 f := by
  rcases hx with ⟨e1, _⟩ | ⟨op', P', pl', e1, rfl, hB, hp, ht⟩
  · cases e1
  · cases e1
    exact ⟨rfl, pl', ⟨hB, hp, h.hf, h.hH, h.hA, (ht.ft (x := x)).below h.b h.hf h.hH h.hA h.b.size⟩, fun g T cs hr hne => ht.row hr hne⟩
theorem Lv.plan {now : Int} {p : Pr} {op : Oq} {t : Int} (h : Lv w0 f x W H A P w) (hk : x.d.k = 0) (hWH : W.length + H.length ≤ 1000000) (ht : x.ti ≤ now) (e1 : keysP W H = [p]) (e2 : layP W H A now p = [op]) (e3 : layT W H A now maxT p = t) :
    Calls Try.prog 18 #[.pointer (some ⟨f, 0, none⟩), .int .i64 now] w fun e w' => e = .returned (.tuple #[oV op, .bool true]) ∧ ∃ pl', Lv w0 f ⟨x.mW, x.mH, x.mA, op, pl', t⟩ W H A [] w' ∧ Kp w w' f := by
  refine (next_idle h.fb h.pl h.b.size now hk hWH).mono ?_
  rintro e w2 (⟨h1, _⟩ | ⟨_, ks, pl, K, hp, hK, _, hn⟩)
  · omega
  · rw [e1] at hp
    obtain rfl := List.perm_singleton.1 hp
    have e4 : lays W H A now [p] = [op] := by simp [lays, e2]
    rw [e4] at hK
    obtain rfl := List.perm_singleton.1 hK
    have e5 : layTs W H A now maxT [p] = t := by simpa [layTs] using e3
    rw [e5] at hn
    rcases hn with ⟨e1, _⟩ | ⟨op', P', pl', e1, rfl, hB, hp, ht⟩
    · cases e1
    · cases e1
      exact ⟨rfl, pl', ⟨hB, hp, h.hf, h.hH, h.hA, (ht.ft (x := x)).below h.b h.hf h.hH h.hA h.b.size⟩, fun g T cs hr hne => ht.row hr hne⟩
theorem Lv.hold {now : Int} (h : Lv w0 f x W H A [] w) (hk : x.d.k = 0) (hWH : W.length + H.length ≤ 1000000) (ht : now < x.ti) :
    Calls Try.prog 18 #[.pointer (some ⟨f, 0, none⟩), .int .i64 now] w fun e w' => e = .returned (.tuple #[oV zeroO, .bool false]) ∧ Lv w0 f x W H A [] w' ∧ Kp w w' f := by
  refine (next_idle h.fb h.pl h.b.size now hk hWH).mono ?_
  rintro e w2 (⟨_, hn⟩ | ⟨h1, _⟩)
  · rcases hn with ⟨_, rfl, hB, hp, ht⟩ | ⟨op', P', pl', e1, _⟩
    · exact ⟨rfl, ⟨hB, hp, h.hf, h.hH, h.hA, (ht.ft (x := x)).below h.b h.hf h.hH h.hA h.b.size⟩, fun g T cs hr hne => ht.row hr hne⟩
    · cases e1
  · omega
theorem Lv.drained (h : Lv w0 f x W H A P w) (hq : (x.d.k == 0 && eqM H W) = true) : Calls Try.prog 22 #[.pointer (some ⟨f, 0, none⟩)] w fun e w' => e = .returned (.bool true) ∧ Lv w0 f x W H A P w' ∧ Kp w w' f :=
  (drained_any h.fb).mono (by rintro e w' ⟨rfl, hb⟩; exact ⟨by rw [hq], h.below hb⟩)
theorem Lv.has (h : Lv w0 f x W H A P w) : Calls Try.prog 20 #[.pointer (some ⟨f, 0, none⟩)] w fun e w' => ∃ a c, e = .returned (.slice a H.length c) ∧ Lv w0 f x W H A P w' ∧ Kp w w' f :=
  (has_any h.fb).mono (by rintro e w' ⟨a, c, K, rfl, hp, _, _, hb⟩; exact ⟨a, c, by rw [hp.length_eq], h.below hb⟩)
theorem Lv.at_ {p : Pr} {t : Int} (h : Lv w0 f x W H [(p, t)] P w) (ho : todR W H p ≠ none) : Calls Try.prog 24 #[.pointer (some ⟨f, 0, none⟩)] w fun e w' => e = .returned (.tuple #[.int .i64 t, .bool true]) ∧ Lv w0 f x W H [(p, t)] P w' ∧ Kp w w' f := by
  refine (at_any h.fb).mono ?_
  rintro e w' ⟨u, b, rfl, hi, hb⟩
  rcases hi with ⟨_, _, hno⟩ | ⟨rfl, ⟨n, hn, _, rfl⟩, _⟩
  · exact absurd (hno (p, t) (by simp)) ho
  · obtain rfl := List.mem_singleton.1 hn
    exact ⟨rfl, h.below hb⟩
theorem new_lv (w : World) : Calls Try.prog 16 #[] w fun e w' => ∃ f x, e = .returned (.pointer (some ⟨f, 0, none⟩)) ∧ x.d = zeroO ∧ x.ti = -9223372036854775808 ∧ Lv w f x [] [] [] [] w' := by
  refine (new_any w).mono ?_
  rintro e w' ⟨rfl, hB, hb⟩
  exact ⟨_, newF w, rfl, rfl, rfl, hB, ⟨none, 0, rfl, Nat.le_refl _, .inl rfl⟩, by omega, by simp [newF], by simp [newF], hb⟩
end
end Go.Proofs.Ytiihlgcafppehaa
