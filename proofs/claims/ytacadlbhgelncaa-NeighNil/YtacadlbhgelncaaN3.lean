/-
  What of a neighbour is missed by a time; its key.
-/
import Derived.Test.YtacadlbhgelncaaN2
import Derived.Deep.QuietTactic
import Derived.BigQuiet
import Derived.Deep.CutBlock
namespace Go.Proofs.Ytacadlbhgelncaa
open Lk (Hi hcs hcs_one)
open Rk (Rt rcs rtV)
open Go.RowKit Go.Maps
set_option linter.unusedSimpArgs false
set_option linter.unusedVariables false
set_option maxRecDepth 20000
abbrev hV (h : Hi) : Value := .agg #[.int .u16 h.b, .int .u16 h.n, .bool h.k]
abbrev nV (n : Ng) : Value := .agg (ncs n).toArray
def awB (h : Hi) (g : Int) : Bool := (h.b != 0) && (g != 0)
theorem awaited_any (h : Hi) (g : Int) (w : World) : Calls Try.prog 58 #[hV h, .int .i64 g] w (Gives w (.bool (awB h g))) := by
  obtain ⟨b, m, k⟩ := h
  unfold awB
  dsimp only
  cases h1 : b != 0 with
  | false =>
    go_enter Try.func58, Try.ntmps58
    go_wp2
    go_ret
    exact ⟨by simp, ba _ _⟩
  | true =>
    cases h2 : g != 0 <;>
    · go_enter Try.func58, Try.ntmps58
      go_wp2
      go_ret
      exact ⟨by simp, ba _ _⟩
/-- A history whose hellos are missed until t. -/
def late : Nat → Hi → Int → Int → Int → Hi × Int
  | 0, h, _, a, _ => (h, a)
  | f + 1, h, g, a, t => if awB h g = true ∧ a ≤ t then late f (Lk.missH h 1) g (a + g) t else (h, a)
theorem late_stop {f : Nat} {h : Hi} {g a t : Int} (hn : ¬ (awB h g = true ∧ a ≤ t)) : late f h g a t = (h, a) := by
  cases f with
  | zero => rfl
  | succ f => rw [late, if_neg hn]
theorem late_step {f : Nat} {h : Hi} {g a t : Int} (hb : h.b < 2 ^ f) (h0 : 0 ≤ h.b) (hn : awB h g = true ∧ a ≤ t) : ∃ f', f = f' + 1 ∧ late f h g a t = late f' (Lk.missH h 1) g (a + g) t := by
  cases f with
  | zero =>
    have : h.b = 0 := by simp at hb; omega
    simp [awB, this] at hn
  | succ f => exact ⟨f, rfl, by rw [late, if_pos hn]⟩
theorem miss_half {h : Hi} (hk : h.k = true) : Lk.missH h 1 = ⟨h.b / 2, (h.n + 1) % 65536, true⟩ := by
  unfold Lk.missH
  rw [if_pos ⟨hk, by omega⟩]
  simp
theorem low_rows (w : World) (cs ds : List Value) (t u : TypeId) : Below w.heap.size w ((w.alloc (.cells cs.toArray t)).alloc (.cells ds.toArray u)) ∧ Row ((w.alloc (.cells cs.toArray t)).alloc (.cells ds.toArray u)) w.heap.size t cs ∧ Row ((w.alloc (.cells cs.toArray t)).alloc (.cells ds.toArray u)) (w.heap.size + 1) u ds := by
  have q1 := Row.new (w.alloc (.cells cs.toArray t)) u ds
  rw [World.size_alloc] at q1
  exact ⟨bt (ba _ _) (ba _ _), (Row.new w t cs).alloc _, q1⟩
set_option maxHeartbeats 2000000 in
theorem missed_any (h : Hi) (g a t : Int) (w : World) (ok : h.ok) (hk : h.b ≠ 0 → h.k = true) (g0 : 0 ≤ g) (g1 : g ≤ 655350) (a0 : -1125899906842624 ≤ a) (a1 : a ≤ 2251799813685248) (t1 : t ≤ 1125899906842624) :
    Calls Try.prog 49 #[hV h, .int .i64 g, .int .i64 a, .int .i64 t] w (Gives w (.tuple #[hV (late 16 h g a t).1, .int .i64 (late 16 h g a t).2])) := by
  have HR : Hid (∃ f, late f h g a t = late 16 h g a t ∧ h.b < 2 ^ f) := ⟨16, rfl, by have := ok.b1; omega⟩
  generalize late 16 h g a t = R at *
  go_enter Try.func49, Try.ntmps49
  go_wp2_with fail
  obtain ⟨hB, r0, r1⟩ := low_rows w (hcs h) (hcs ⟨0, 0, false⟩) 52 52
  refine name_world (R := fun W => Code.wp _ _ _ _ W) (P := fun W => Below w.heap.size w W ∧ Row W w.heap.size 52 (hcs h) ∧ Row W (w.heap.size + 1) 52 (hcs ⟨0, 0, false⟩)) _ ⟨hB, r0, r1⟩ ?_
  clear hB r0 r1
  rintro X ⟨hB, r0, r1⟩
  go_loopw [2] (fun v wr => ∃ (c : Hi) (z : Int), v = .int .i64 z ∧ Row wr w.heap.size 52 (hcs c) ∧ Row wr (w.heap.size + 1) 52 (hcs ⟨0, 0, false⟩) ∧ Below w.heap.size w wr ∧ (∃ f, late f c g z t = R ∧ c.b < 2 ^ f) ∧ c.ok ∧ (c.b ≠ 0 → c.k = true) ∧ -1125899906842624 ≤ z ∧ z ≤ 2251799813685248) (fun _ wr => match wr.cell? ⟨w.heap.size, 0, none⟩ with | some (.int .u16 b) => b.toNat | _ => 0)
  case atStart => exact ⟨h, a, rfl, r0, r1, hB, HR.out, ok, hk, a0, a1⟩
  case round =>
    obtain ⟨c, z, rfl, r2, r3, hB2, hf, okc, hkc, z0, z1⟩ := hrel
    have g4 : w.heap.size < wr.heap.size := r2.lt
    have g5 : w.heap.size + 1 < wr.heap.size := r3.lt
    by_cases hc : awB c g = true ∧ z ≤ t
    · have HA := awaited_any c g
      rw [hc.1] at HA
      have hzt := hc.2
      have hbn : c.b ≠ 0 := by
        have := hc.1
        intro e
        simp [awB, e] at this
      obtain ⟨f, hf1, hf2⟩ := hf
      obtain ⟨f', rfl, hf3⟩ := late_step hf2 okc.b0 hc
      have hm := miss_half (hkc hbn)
      have HM : Hid (Row wr w.heap.size 52 (hcs c) ∧ late f' (Lk.missH c 1) g (z + g) t = R ∧ (Lk.missH c 1).b < 2 ^ f' ∧ (Lk.missH c 1).ok ∧ ((Lk.missH c 1).b ≠ 0 → (Lk.missH c 1).k = true) ∧ (Lk.missH c 1).b.toNat < c.b.toNat ∧ -1125899906842624 ≤ z + g ∧ z + g ≤ 2251799813685248) := by
        have b0 := okc.b0
        have b1 := okc.b1
        refine ⟨r2, hf3 ▸ hf1, ?_, ?_, ?_, ?_, by omega, by omega⟩ <;> rw [hm] <;> try dsimp only
        · rw [Int.pow_succ] at hf2; omega
        · exact ⟨by show 0 ≤ c.b / 2; omega, by show c.b / 2 < 65536; omega, by show 0 ≤ (c.n + 1) % 65536; omega, by show (c.n + 1) % 65536 < 65536; omega⟩
        · intro _; rfl
        · omega
      have hz : wrap64 (z + g) = z + g := by unfold wrap64; omega
      clear hm hf1 hf2 hf3 okc hkc hc z0 z1 hbn a0 a1 t1 g0 g1 HR
      have HN := Lk.miss_any c 1
      generalize Lk.missH c 1 = d at *
      go_wp2_with (first
        | (have kk := hB3; refine stH (.tmp 4) (.tmp 19) rfl rfl _ _ d rfl rfl (r6.there (by simp [hcs])) ?_)
        | (have kk := hB1; go_at_call 68; refine (HN _).mono ?_; rintro e w3 ⟨rfl, hB3⟩; have r6 := r4.below hB3 g6; have r7 := r5.below hB3 g7)
        | (have kk := hB1; refine ldH (.tmp 4) rfl rfl _ _ c rfl r4.range ?_)
        | (go_at_call 58; refine (HA _).mono ?_; rintro e w1 ⟨rfl, hB1⟩; have r4 := r2.below hB1 g4; have r5 := r3.below hB1 g5; have g6 := r4.lt; have g7 := r5.lt)
        | (refine ldH (.tmp 4) rfl rfl _ _ c rfl r2.range ?_))
      obtain ⟨_, m1, m2, m3, m4, m5, m6, m7⟩ := HM.out
      have r8 := Row.setCells (hcs d) [] w3 (hcs c) r6 rfl
      have gb := grownBy_setCells w.heap.size (hcs d) 0 w3
      have r9 := r7.keep gb (by omega)
      have hB9 := grown_below gb (hB2.trans ((hB1.trans (hB3.mono hB1.size)).mono (by omega))) (Nat.le_refl _) (by have := hB1.size; have := hB3.size; omega)
      go_roundw
      case rel => exact ⟨d, z + g, rfl, r8, r9, hB9, ⟨f', m1, m2⟩, m3, m4, m6, m7⟩
      case measure =>
        have q1 : (w3.setCells w.heap.size 0 (hcs d)).cell? ⟨w.heap.size, 0, none⟩ = some (.int .u16 d.b) := r8.cell 0
        have q2 : wr.cell? ⟨w.heap.size, 0, none⟩ = some (.int .u16 c.b) := r2.cell 0
        rw [q1, q2]
        exact m5
    · have hs : late 16 c g z t = (c, z) := late_stop hc
      have hR : R = (c, z) := by obtain ⟨f, h1, _⟩ := hf; rw [← h1]; exact late_stop hc
      subst hR
      have HA := awaited_any c g
      clear hf okc hkc z0 z1 a0 a1 t1 g0 g1 HR hs
      cases hb : awB c g with
      | false =>
        rw [hb] at HA
        go_wp2_with (first
          | (have kk := r4; refine stH (.tmp 8) (.tmp 23) rfl rfl _ _ c rfl rfl (r5.there (by simp [hcs])) ?_)
          | (have kk := r4; refine ldH (.tmp 4) rfl rfl _ _ c rfl r4.range ?_)
          | (go_at_call 58; refine (HA _).mono ?_; rintro e w1 ⟨rfl, hB1⟩; have r4 := r2.below hB1 g4; have r5 := r3.below hB1 g5)
          | (refine ldH (.tmp 4) rfl rfl _ _ c rfl r2.range ?_))
        have r8 := Row.setCells (hcs c) [] w1 (hcs ⟨0, 0, false⟩) r5 rfl
        have gb := grownBy_setCells (w.heap.size + 1) (hcs c) 0 w1
        have hB9 := grown_below gb (hB2.trans (hB1.mono (by omega))) (by omega) (by have := hB1.size; omega)
        exact bodyPost_ret (retCT rfl _ _ 0 rfl (Lk.lvH (Lk.LH.range r8))) rfl ⟨rfl, hB9⟩
      | true =>
        have hzt : t < z := by
          have : ¬ z ≤ t := fun h => hc ⟨hb, h⟩
          omega
        rw [hb] at HA
        clear hc
        go_wp2_with (first
          | (have kk := r4; refine stH (.tmp 8) (.tmp 23) rfl rfl _ _ c rfl rfl (r5.there (by simp [hcs])) ?_)
          | (have kk := r4; refine ldH (.tmp 4) rfl rfl _ _ c rfl r4.range ?_)
          | (go_at_call 58; refine (HA _).mono ?_; rintro e w1 ⟨rfl, hB1⟩; have r4 := r2.below hB1 g4; have r5 := r3.below hB1 g5)
          | (refine ldH (.tmp 4) rfl rfl _ _ c rfl r2.range ?_))
        have r8 := Row.setCells (hcs c) [] w1 (hcs ⟨0, 0, false⟩) r5 rfl
        have gb := grownBy_setCells (w.heap.size + 1) (hcs c) 0 w1
        have hB9 := grown_below gb (hB2.trans (hB1.mono (by omega))) (by omega) (by have := hB1.size; omega)
        exact bodyPost_ret (retCT rfl _ _ 0 rfl (Lk.lvH (Lk.LH.range r8))) rfl ⟨rfl, hB9⟩
end Go.Proofs.Ytacadlbhgelncaa
