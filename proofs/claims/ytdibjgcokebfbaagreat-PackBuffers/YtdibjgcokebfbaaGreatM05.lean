/-
  What a call hands back in a variable; and addr.Any, for every family.
-/
import Derived.Test.YtdibjgcokebfbaaGreatM04
import Derived.Deep.QuietTactic
import Derived.BigQuiet
namespace Go.Proofs.YtdibjgcokebfbaaGreat
open Go.RowKit
set_option linter.unusedSimpArgs false

/-- What a function that only makes memory answers. -/
def Gives (w : World) (v : Value) (e : Ending) (w' : World) : Prop := e = .returned v ∧ Below w.heap.size w w'

theorem retCT {P : Program} {fn : Func} {p u : Tmp} {ty : TypeId} {v : Value} {w : World} (h : fn.results = #[.cell p ty, .tmp u]) (tmps : Array Value) (b o : Nat) (hp : tmps.getD p undef = .pointer (some ⟨b, o, none⟩))
    (hl : (loadVar ty ⟨b, o, none⟩).run P w = .ok v w) : (results fn tmps).run P w = .ok (.tuple #[v, tmps.getD u undef]) w := by
  simp only [results, h]
  rw [Array.getD_eq_getD_getElem?] at hp
  simp [Sem.run_bind, hp, asAddr, hl, Result.andThen]
theorem lvA {w : World} {b o : Nat} {a : Ad} (h : LA w b o a) : (loadVar 23 ⟨b, o, none⟩).run Tryz.prog w = .ok (Value.agg (acells a).toArray) w :=
  run_loadVar_mid w b o _ (acells a) _ h Tryz.underlying23 rfl (by rw [infoA, acells_len])
theorem lvP {w : World} {b o : Nat} {a : Pf} (h : LP w b o a) : (loadVar 40 ⟨b, o, none⟩).run Tryz.prog w = .ok (Value.agg (pcells a).toArray) w :=
  run_loadVar_mid w b o _ (pcells a) _ h Tryz.underlying40 rfl (by rw [infoP, pcells_len])
theorem lvQ {w : World} {b o : Nat} {a : Pr} (h : LQ w b o a) : (loadVar 42 ⟨b, o, none⟩).run Tryz.prog w = .ok (Value.agg (qcells a).toArray) w :=
  run_loadVar_mid w b o _ (qcells a) _ h Tryz.underlying42 rfl (by rw [infoQ, qcells_len])
theorem LA.new (w : World) (a : Ad) (t : TypeId) : LA (w.alloc (.cells (acells a).toArray t)) w.heap.size 0 a := rangeAt_new w _ t
theorem LP.new (w : World) (a : Pf) (t : TypeId) : LP (w.alloc (.cells (pcells a).toArray t)) w.heap.size 0 a := rangeAt_new w _ t
theorem LQ.new (w : World) (a : Pr) (t : TypeId) : LQ (w.alloc (.cells (qcells a).toArray t)) w.heap.size 0 a := rangeAt_new w _ t
theorem LA.below {w w' : World} {B b o : Nat} {c : Ad} (h : LA w b o c) (hb : Below B w w') (hlt : b < B) : LA w' b o c := rangeAt_below h hb hlt
theorem LP.below {w w' : World} {B b o : Nat} {c : Pf} (h : LP w b o c) (hb : Below B w w') (hlt : b < B) : LP w' b o c := rangeAt_below h hb hlt
theorem LQ.below {w w' : World} {B b o : Nat} {c : Pr} (h : LQ w b o c) (hb : Below B w w') (hlt : b < B) : LQ w' b o c := rangeAt_below h hb hlt
theorem LA.alloc {w : World} {b o : Nat} {c : Ad} (h : LA w b o c) (ob : Obj) : LA (w.alloc ob) b o c := World.rangeAt_alloc h ob
theorem LP.alloc {w : World} {b o : Nat} {c : Pf} (h : LP w b o c) (ob : Obj) : LP (w.alloc ob) b o c := World.rangeAt_alloc h ob
theorem LQ.alloc {w : World} {b o : Nat} {c : Pr} (h : LQ w b o c) (ob : Obj) : LQ (w.alloc ob) b o c := World.rangeAt_alloc h ob

def zeroA : Ad := ⟨List.replicate 16 0, rfl⟩
def mapA : Ad := ⟨[0, 0, 0, 0, 0, 0, 0, 0, 0, 0, 255, 255, 0, 0, 0, 0], rfl⟩
def anyP (f : Int) : Pf := if f = 4 then ⟨mapA, 96⟩ else ⟨zeroA, 0⟩

theorem any_any (f : Int) (w : World) : Calls Tryz.prog 85 #[.int .i64 f] w (Gives w (Value.agg (pcells (anyP f)).toArray)) := by
  by_cases h : f = 4
  · have h' : (f == 4) = true := by simpa using h
    rw [show anyP f = ⟨mapA, 96⟩ by simp [anyP, h]]
    clear h
    go_enter Tryz.func85, Tryz.ntmps85
    go_wp2
    exact bodyPost_ret (retC rfl _ w.heap.size 0 rfl (lvP (LP.new w ⟨mapA, 96⟩ _))) rfl ⟨rfl, (Below.refl _ _).alloc (Nat.le_refl _) _⟩
  · have h' : (f == 4) = false := by simpa using h
    rw [show anyP f = ⟨zeroA, 0⟩ by simp [anyP, h]]
    clear h
    go_enter Tryz.func85, Tryz.ntmps85
    go_wp2
    exact bodyPost_ret (retC rfl _ w.heap.size 0 rfl (lvP (LP.new w ⟨zeroA, 0⟩ _))) rfl ⟨rfl, (Below.refl _ _).alloc (Nat.le_refl _) _⟩
end Go.Proofs.YtdibjgcokebfbaaGreat

namespace Go.Proofs.YtdibjgcokebfbaaGreat
open Go.RowKit
set_option linter.unusedSimpArgs false
/-- The first k bits of a byte. -/
def keepB (k : Nat) (b : UInt8) : UInt8 := UInt8.ofNat (b.toNat - b.toNat % 2 ^ (8 - k))
/-- The first n bits of an address. -/
def cutA (a : Ad) (n : Nat) : Ad := ⟨a.l.mapIdx (fun i b => keepB (n - 8 * i) b), by simp [a.len]⟩
theorem keepB_all {k : Nat} (h : 8 ≤ k) (b : UInt8) : keepB k b = b := by
  have : 8 - k = 0 := by omega
  simp [keepB, this, Nat.mod_one]
theorem keepB_none (b : UInt8) : keepB 0 b = 0 := by
  have h : b.toNat % 2 ^ (8 - 0) = b.toNat := Nat.mod_eq_of_lt b.toNat_lt
  unfold keepB
  rw [h, Nat.sub_self]; rfl

theorem keepB_bits (b : UInt8) (r : Nat) (hr : r < 8) : bits BinOp.andNot IntKind.u8 (b.toNat : Int) (255 / 2 ^ r) = ((keepB r b).toNat : Int) := by
  have h : ((List.range 8).all fun r => (List.range 256).all fun b => bits BinOp.andNot IntKind.u8 (b : Int) (255 / 2 ^ r) == (((b - b % 2 ^ (8 - r)) % 256 : Nat) : Int)) = true := by kernel_rfl
  have h1 := List.all_eq_true.1 (List.all_eq_true.1 h r (by simp [hr])) b.toNat (List.mem_range.2 b.toNat_lt)
  rw [eq_of_beq h1]
  simp [keepB]
theorem cut_get (a : Ad) (n i : Nat) : (acells (cutA a n))[i]? = (a.l[i]?).map fun b => Value.int .u8 ((keepB (n - 8 * i) b).toNat : Int) := by
  unfold acells bcells cutA
  cases h : a.l[i]? <;> simp [h]
theorem splice_get (a : Ad) (k i : Nat) (hk : k ≤ 16) : (splice (acells zeroA) 0 ((acells a).take k))[i]? = if i < k then (acells a)[i]? else (acells zeroA)[i]? := by
  have hl : ((acells a).take k).length = k := by simp [acells_len]; omega
  simp only [splice, List.take_zero, List.nil_append, Nat.zero_add, hl]
  by_cases h : i < k
  · rw [List.getElem?_append_left (by omega), List.getElem?_take, if_pos h, if_pos h]
  · rw [List.getElem?_append_right (by omega), hl, List.getElem?_drop, if_neg h]
    congr 1; omega
theorem zero_get (i : Nat) (hi : i < 16) : (acells zeroA)[i]? = some (.int .u8 0) := by
  have h : acells zeroA = List.replicate 16 (.int .u8 0) := rfl
  rw [h, List.getElem?_replicate, if_pos hi]
theorem cut_cells (a : Ad) (k r : Nat) (hk : 8 * k + r ≤ 128) (hr : r < 8) (Z : List Value) (hZ : Z = splice (acells zeroA) 0 ((acells a).take k)) :
    (r = 0 → acells (cutA a (8 * k + r)) = Z) ∧ ∀ b, a.l[k]? = some b → acells (cutA a (8 * k + r)) = Z.set k (.int .u8 (bits BinOp.andNot IntKind.u8 (b.toNat : Int) (255 / 2 ^ r))) := by
  have hz : Z.length = 16 := by rw [hZ, length_splice _ _ _ (by simp [acells_len]; omega), acells_len]
  have key : ∀ i, i ≠ k ∨ r = 0 → (acells (cutA a (8 * k + r)))[i]? = Z[i]? := by
    intro i hi
    rw [cut_get, hZ, splice_get a k i (by omega)]
    by_cases h16 : i < 16
    · obtain ⟨c, hc⟩ : ∃ c, a.l[i]? = some c := ⟨_, List.getElem?_eq_getElem (by rw [a.len]; omega)⟩
      by_cases hik : i < k
      · rw [if_pos hik, hc, Option.map_some, keepB_all (by omega)]
        exact (bcells_get hc).symm
      · rw [if_neg hik, zero_get i h16, hc, Option.map_some, show 8 * k + r - 8 * i = 0 by omega, keepB_none]; rfl
    · rw [if_neg (by omega), List.getElem?_eq_none (by rw [a.len]; omega), List.getElem?_eq_none (by rw [acells_len]; omega)]; rfl
  refine ⟨fun h0 => List.ext_getElem? fun i => key i (.inr h0), fun b hb => List.ext_getElem? fun i => ?_⟩
  have hk16 : k < 16 := by have := (List.getElem?_eq_some_iff.1 hb).1; rw [a.len] at this; exact this
  rw [List.getElem?_set]
  by_cases hik : k = i
  · subst hik
    rw [if_pos rfl, if_pos (by omega), cut_get, hb, Option.map_some, show 8 * k + r - 8 * k = r by omega, keepB_bits b r hr]
  · rw [if_neg hik]
    exact key i (.inl fun h => hik h.symm)

theorem cut_any (a : Ad) (k r : Nat) (hk : 8 * k + r ≤ 128) (hr : r < 8) (w : World) : Calls Tryz.prog 84 #[(Value.agg (acells a).toArray), .int .i64 ((8 * k + r : Nat) : Int)] w (Gives w (Value.agg (acells (cutA a (8 * k + r))).toArray)) := by
  obtain ⟨n, hn⟩ : ∃ n : Nat, n = 8 * k + r := ⟨_, rfl⟩
  have h1 : Int.tdiv (n : Int) 8 = (k : Int) := by rw [Int.tdiv_eq_ediv_of_nonneg (by omega)]; omega
  have h2 : Int.tmod (n : Int) 8 = (r : Int) := by rw [Int.tmod_eq_emod_of_nonneg (by omega)]; omega
  have hk0 : (0 : Int) ≤ (k : Int) := by omega
  have hk' : (k : Int) ≤ 16 := by omega
  have HN : Hid (n = 8 * k + r) := hn
  rw [← hn]
  clear hn
  go_enter Tryz.func84, Tryz.ntmps84
  go_wp2
  refine name_world (R := fun W => Code.wp _ _ _ _ W) (P := fun W => Below w.heap.size w W ∧ LA W w.heap.size 0 a ∧ Row W (w.heap.size + 2) 23 (acells zeroA) ∧ Row W (w.heap.size + 1) 23 (acells zeroA) ∧ W.heap.size = w.heap.size + 3) _ ?_ ?_
  · have q1 := Row.new (w.alloc (.cells (acells a).toArray 23)) 23 (acells zeroA)
    have q2 := Row.new ((w.alloc (.cells (acells a).toArray 23)).alloc (.cells (acells zeroA).toArray 23)) 23 (acells zeroA)
    simp only [World.size_alloc] at q1 q2
    exact ⟨(((Below.refl _ _).alloc (Nat.le_refl _) _).alloc (by simp) _).alloc (by simp; omega) _, ((LA.new w a _).alloc _).alloc _, q2, q1.alloc _, by simp⟩
  rintro W ⟨hB, hA, hg, hg1, hs⟩
  have hBd : Below (w.heap.size + 2) W W.drew := (Below.refl _ _).drew
  go_region_held3 (fun w' => Below (w.heap.size + 2) W w') (first | assumption | exact hB2) (first | (refine step_copy_splice rfl (.tmp 12) (.tmp 14) 46 46 rfl 5 Tryz.underlying46 (by kernel_rfl) _ _ _ _ _ _ rfl rfl (w.heap.size + 2) 0 (acells zeroA) 23 hg ((acells a).take k) (by simp [acells_len]) (fun _ => ⟨rfl, _, rfl, fun j v hv => by rw [Addr.add_mid]; exact hA j v (take_get hv)⟩) (by simp [acells_len]; omega) (fun v hv => acells_one a v (List.mem_of_mem_take hv)) (w.heap.size + 2) W hBd (Nat.le_refl _) ?_; intro W2 HG2 hB2))
  have hA2 : LA W2 w.heap.size 0 a := hA.below hB2 (by omega)
  have hg2 : Row W2 (w.heap.size + 1) 23 (acells zeroA) := hg1.below hB2 (by omega)
  have hB3 : Below w.heap.size w W2 := hB.trans (Below.mono hB2 (by omega))
  clear hBd hg hA hg1 hB
  clear hB2
  obtain ⟨Z, hZ⟩ : ∃ Z, Z = splice (acells zeroA) 0 ((acells a).take k) := ⟨_, rfl⟩
  rw [← hZ] at HG2
  have HZ : Hid (Z = _) := hZ
  clear hZ
  by_cases h0 : r = 0
  · subst h0
    have hR : Row W2 (w.heap.size + 1 + 1) 23 (acells (cutA a n)) := by
      have := (cut_cells a k 0 hk (by omega) Z HZ.out).1 rfl
      rw [← HN.out] at this
      rw [this]; exact HG2.out
    clear HG2
    go_wp2_with (first
      | (refine ldA (.tmp 5) rfl rfl _ _ (cutA a n) rfl hR.range ?_)
      | (refine stA (.tmp 4) (.tmp 26) rfl rfl _ _ (cutA a n) rfl rfl (hg2.there (by rw [acells_len]; omega)) ?_))
    exact bodyPost_ret (retC rfl _ _ 0 rfl (lvA (LA.stored (hg2.there (by rw [acells_len]; omega))))) rfl ⟨rfl, below_setCells _ (by omega) _ _ _ hB3⟩
  · have h0' : (0 : Int) < (r : Int) := by omega
    have hk16 : (k : Int) < 16 := by omega
    obtain ⟨b, hb⟩ : ∃ b, a.l[k]? = some b := ⟨_, List.getElem?_eq_getElem (by rw [a.len]; omega)⟩
    have hc : W2.cell? ⟨w.heap.size, k, none⟩ = some (.int .u8 b.toNat) := by simpa using hA2 k _ (bcells_get hb)
    have hR : Row W2 (w.heap.size + 1 + 1) 23 Z := HG2.out
    have hzl : ∃ v, Z[k]? = some v := by rw [HZ.out, splice_get a k k (by omega), if_neg (by omega), zero_get k (by omega)]; exact ⟨_, rfl⟩
    obtain ⟨v, hv⟩ := hzl
    have hd : W2.cell? ⟨w.heap.size + 1 + 1, k, none⟩ = some v := (hR.cell k).trans hv
    have hf : W2.frozen? ⟨w.heap.size + 1 + 1, k, none⟩ = false := hR.frozen k
    clear HG2
    go_wp2
    go_region
    have e1 : acells (cutA a n) = Z.set k (.int .u8 (bits BinOp.andNot IntKind.u8 (b.toNat : Int) (255 / 2 ^ r))) := by rw [HN.out]; exact (cut_cells a k r hk hr Z HZ.out).2 b hb
    refine name_world (R := fun W => Exit.then _ _ _ _ W) (P := fun W3 => Below w.heap.size w W3 ∧ Row W3 (w.heap.size + 1) 23 (acells zeroA) ∧ Row W3 (w.heap.size + 1 + 1) 23 (acells (cutA a n))) _ ⟨(hB3.setCell (p := ⟨w.heap.size + 1 + 1, k, none⟩) (by simp; omega) _).drew, (hg2.setOther _ k _ (by omega)).drew, by rw [e1]; exact (hR.set k _).drew⟩ ?_
    rintro W3 ⟨hB4, hg4, hR4⟩
    clear hR hd hf hc hB3 hg2 hA2
    go_wp2_with (first
      | (refine ldA (.tmp 5) rfl rfl _ _ (cutA a n) rfl hR4.range ?_)
      | (refine stA (.tmp 4) (.tmp 26) rfl rfl _ _ (cutA a n) rfl rfl (hg4.there (by rw [acells_len]; omega)) ?_))
    exact bodyPost_ret (retC rfl _ _ 0 rfl (lvA (LA.stored (hg4.there (by rw [acells_len]; omega))))) rfl ⟨rfl, below_setCells _ (by omega) _ _ _ hB4⟩
end Go.Proofs.YtdibjgcokebfbaaGreat

namespace Go.Proofs.YtdibjgcokebfbaaGreat
open Go.RowKit
set_option linter.unusedSimpArgs false
set_option maxRecDepth 20000

theorem bt {w w1 w2 : World} (h : Below w.heap.size w w1) (k : Below w1.heap.size w1 w2) : Below w.heap.size w w2 := h.trans (k.mono h.size)
theorem ba (w : World) (o : Obj) : Below w.heap.size w (w.alloc o) := (Below.refl _ _).alloc (Nat.le_refl _) o
theorem cut_n (a : Ad) (n : Nat) (hn : n ≤ 128) (w : World) : Calls Tryz.prog 84 #[(Value.agg (acells a).toArray), .int .i64 (n : Int)] w (Gives w (Value.agg (acells (cutA a n)).toArray)) := by
  have h := cut_any a (n / 8) (n % 8) (by omega) (by omega) w
  rwa [show 8 * (n / 8) + n % 8 = n by omega] at h
/-- The family of an address. -/
def famA (a : Ad) : Int := if (cutA a 96).l = mapA.l then 4 else 6
theorem fam_any (a : Ad) (w : World) : Calls Tryz.prog 46 #[(Value.agg (acells a).toArray)] w (Gives w (.int .i64 (famA a))) := by
  have he := eqA 9998
  have hf := run_fieldA
  have hc := cut_n a 96 (by omega)
  have ha := any_any 4
  rw [show anyP 4 = ⟨mapA, 96⟩ from rfl] at ha
  have H : ∀ b : Bool, decide ((cutA a 96).l = mapA.l) = b → famA a = if b = true then 4 else 6 := by
    intro b hb; subst hb; simp [famA]
  obtain ⟨b, hb⟩ : ∃ b, decide ((cutA a 96).l = mapA.l) = b := ⟨_, rfl⟩
  have HF : Hid (famA a = if b = true then 4 else 6) := H b hb
  clear H
  have h0 := LA.new w a 23
  go_enter Tryz.func46, Tryz.ntmps46
  go_wp2_with (first
    | (refine ldA (.tmp 1) rfl rfl _ _ a rfl h0 ?_)
    | (go_at_call 85; refine (ha _).mono ?_; rintro e w2 ⟨rfl, hB2⟩)
    | (go_at_call 84; refine (hc _).mono ?_; rintro e w1 ⟨rfl, hB1⟩))
  · have h : b = true := by assumption
    go_ret
    exact ⟨by rw [HF.out, if_pos h]; rfl, bt (bt (ba _ _) hB1) hB2⟩
  · have h : b = false := by assumption
    go_ret
    exact ⟨by rw [HF.out, h]; rfl, bt (bt (ba _ _) hB1) hB2⟩
/-- The family of a prefix. -/
def famP (p : Pf) : Int := if 96 ≤ p.n ∧ famA p.a = 4 then 4 else 6
theorem pfam_any (p : Pf) (w : World) : Calls Tryz.prog 48 #[(Value.agg (pcells p).toArray)] w (Gives w (.int .i64 (famP p))) := by
  have h0 := LP.new w p 40
  have h1 := h0.n
  have h2 := h0.a
  have hF := fam_any p.a
  obtain ⟨f, hf⟩ : ∃ f, famA p.a = f := ⟨_, rfl⟩
  obtain ⟨n, hn⟩ : ∃ n, p.n = n := ⟨_, rfl⟩
  rw [hf] at hF
  have HF : Hid (famP p = if 96 ≤ n ∧ f = 4 then 4 else 6) := by show _ = _; simp [famP, hf, hn]
  rw [hn] at h1
  simp only [Nat.zero_add] at h1
  clear hf hn
  go_enter Tryz.func48, Tryz.ntmps48
  go_wp2_with (first
    | (refine ldA (.tmp 7) rfl rfl _ _ p.a rfl h2 ?_)
    | (go_at_call 46; refine (hF _).mono ?_; rintro e w1 ⟨rfl, hB1⟩))
  · have h : f = 4 := by simpa using ‹(f == 4) = true›
    have h' : 96 ≤ n := by assumption
    go_ret
    exact ⟨by rw [HF.out, if_pos ⟨h', h⟩]; rfl, bt (ba _ _) hB1⟩
  · have h : ¬ f = 4 := by simpa using ‹(f == 4) = false›
    go_ret
    exact ⟨by rw [HF.out, if_neg (fun q => h q.2)]; rfl, bt (ba _ _) hB1⟩
  · have h : n < 96 := by assumption
    go_ret
    exact ⟨by rw [HF.out, if_neg (fun q => absurd q.1 (by omega))]; rfl, ba _ _⟩
/-- What Check answers. -/
def chk (p : Pf) : Int := if 0 ≤ p.n ∧ p.n ≤ 128 ∧ (cutA p.a p.n.toNat).l = p.a.l then 0 else 21
theorem acheck_any (p : Pf) (w : World) : Calls Tryz.prog 99 #[(Value.agg (pcells p).toArray)] w (Gives w (.int .i64 (chk p))) := by
  have he := eqA 9998
  obtain ⟨n, hn⟩ : ∃ n, p.n = n := ⟨_, rfl⟩
  obtain ⟨b, hb⟩ : ∃ b, decide ((cutA p.a n.toNat).l = p.a.l) = b := ⟨_, rfl⟩
  have HF : Hid (chk p = if 0 ≤ n ∧ n ≤ 128 ∧ b = true then 0 else 21) := by show _ = _; simp [chk, hn, ← hb]
  have hu := Tryz.underlying23
  have hi : (Tryz.prog.info? 23).map (·.size) = some (acells p.a).length := by rw [infoA, acells_len]
  go_enter Tryz.func99, Tryz.ntmps99
  go_wp2
  refine name_world (R := fun W => Code.wp _ _ _ _ W) (P := fun W => Below w.heap.size w W ∧ LP W w.heap.size 0 p ∧ w.heap.size < W.heap.size) _ ⟨ba _ _, LP.new _ _ _, by simp⟩ ?_
  rintro X ⟨hB, hP, hs⟩
  have h1 := hP.n
  have h2 := hP.a
  rw [hn] at h1
  simp only [Nat.zero_add] at h1
  clear hn
  have HK : Hid (∀ W, Below X.heap.size X W → Below X.heap.size X W ∧ LA W w.heap.size 0 p.a ∧ W.cell? ⟨w.heap.size, 16, none⟩ = some (.int .i64 n)) :=
    fun W h => ⟨h, h2.below h hs, (h.cell (p := ⟨w.heap.size, 16, none⟩) hs).trans h1⟩
  by_cases c1 : n < 0
  · have d1 : decide (n < 0) = true := by simpa using c1
    go_quiet (fail)
    go_wp2
    go_ret
    exact ⟨by rw [HF.out, if_neg (fun q => absurd q.1 (by omega))]; rfl, below_drewN hB _⟩
  by_cases c2 : 128 < n
  · have d1 : decide (n < 0) = false := by simpa using c1
    have d2 : decide (128 < n) = true := by simpa using c2
    go_quiet (fail)
    go_wp2
    go_ret
    exact ⟨by rw [HF.out, if_neg (fun q => absurd q.2.1 (by omega))]; rfl, below_drewN hB _⟩
  · obtain ⟨k, rfl⟩ : ∃ k : Nat, n = k := ⟨n.toNat, by omega⟩
    have hk : k ≤ 128 := by omega
    have hC := cut_n p.a k hk
    have d1 : decide ((k : Int) < 0) = false := by simp
    have d2 : decide ((128 : Int) < (k : Int)) = false := by simpa using c2
    simp only [Int.toNat_natCast] at hb
    have HKk : Hid (k ≤ 128) := hk
    clear c1 c2 hk
    refine wp_region_noPanic ?_
    refine wp_region_held_drew (S := fun W => Below X.heap.size X W ∧ LA W w.heap.size 0 p.a ∧ W.cell? ⟨w.heap.size, 16, none⟩ = some (.int .i64 (k : Int))) (by kernel_rfl) (HK.out _ (Below.refl _ _).drew) (fun hHeld => ?_)
    refine tA 0 ?_
    refine tA 1 ?_
    refine tA 2 ?_
    refine tA 3 ?_
    refine tA 4 ?_
    refine tA 5 ?_
    refine tA 6 ?_
    refine tA 7 ?_
    refine tA 8 ?_
    refine tA 9 ?_
    refine tL 10 rfl (yA p.a (fun w h => h.2.1) (by rfl) rfl rfl) ?_
    refine tA 11 ?_
    refine tA 12 ?_
    refine tA 14 ?_
    refine tL 15 rfl (yA p.a (fun w h => h.2.1) (by rfl) rfl rfl) ?_
    refine r1 13 fun K hK => ?_
    go_simp
    refine (hC _).mono ?_
    rintro e w1 ⟨rfl, hB1⟩
    refine oK hK (by exact HK.out _ (hHeld.1.trans (hB1.mono hHeld.1.size))) fun hHeld => ?_
    clear hK K
    refine tA 16 ?_
    refine tA 17 ?_
    refine dN ?_
    refine NoPanic.normal ?_
    go_wp2
    · have h : b = false := by simpa using ‹(!b) = true›
      go_ret
      exact ⟨by rw [HF.out, if_neg (fun q => by rw [h] at q; exact absurd q.2.2 (by simp))]; rfl, hB.trans (hHeld.1.mono (Nat.le_of_lt hs))⟩
    · have h : b = true := by simpa using ‹(!b) = false›
      go_ret
      exact ⟨by rw [HF.out, if_pos ⟨by omega, by have := HKk.out; omega, h⟩]; rfl, hB.trans (hHeld.1.mono (Nat.le_of_lt hs))⟩
/-- What Contains answers. -/
def con (p : Pf) (a : Ad) : Bool := decide (chk p = 0) && decide ((cutA a p.n.toNat).l = p.a.l)
theorem chk_or (p : Pf) : chk p = 0 ∧ 0 ≤ p.n ∧ p.n ≤ 128 ∧ (cutA p.a p.n.toNat).l = p.a.l ∨ chk p = 21 := by
  unfold chk
  by_cases h : 0 ≤ p.n ∧ p.n ≤ 128 ∧ (cutA p.a p.n.toNat).l = p.a.l
  · rw [if_pos h]; exact .inl ⟨rfl, h⟩
  · rw [if_neg h]; exact .inr rfl
theorem contains_any (p : Pf) (a : Ad) (w : World) : Calls Tryz.prog 131 #[(Value.agg (pcells p).toArray), (Value.agg (acells a).toArray)] w (Gives w (.bool (con p a))) := by
  have he := eqA 9998
  have hChk := acheck_any p
  have h0 := chk_or p
  obtain ⟨c, hc⟩ : ∃ c, chk p = c := ⟨_, rfl⟩
  obtain ⟨n, hn⟩ : ∃ n, p.n = n := ⟨_, rfl⟩
  obtain ⟨b, hb⟩ : ∃ b, decide ((cutA a n.toNat).l = p.a.l) = b := ⟨_, rfl⟩
  rw [hn] at h0
  rw [hc] at hChk h0
  have HF : Hid (con p a = (decide (c = 0) && b)) := by show _ = _; simp [con, hn, ← hb, hc]
  go_enter Tryz.func131, Tryz.ntmps131
  go_wp2
  refine name_world (R := fun W => Code.wp _ _ _ _ W) (P := fun W => Below w.heap.size w W ∧ LP W w.heap.size 0 p ∧ LA W (w.heap.size + 1) 0 a ∧ w.heap.size + 1 < W.heap.size) _ ⟨bt (ba _ _) (ba _ _), (LP.new _ _ _).alloc _, by have := LA.new (w.alloc (.cells (pcells p).toArray 40)) a 23; simpa using this, by simp⟩ ?_
  rintro X ⟨hB, hP, hA, hs⟩
  have h1 := hP.n
  rw [hn] at h1
  simp only [Nat.zero_add] at h1
  clear hn hc
  have HK : Hid (∀ W, Below X.heap.size X W → Below X.heap.size X W ∧ LP W w.heap.size 0 p ∧ LA W (w.heap.size + 1) 0 a ∧ W.cell? ⟨w.heap.size, 16, none⟩ = some (.int .i64 n)) :=
    fun W h => ⟨h, hP.below h (by omega), hA.below h hs, (h.cell (p := ⟨w.heap.size, 16, none⟩) (by show w.heap.size < _; omega)).trans h1⟩
  rcases h0 with ⟨h0, hn0, hn1, _⟩ | h0
  · subst h0
    obtain ⟨k, rfl⟩ : ∃ k : Nat, n = k := ⟨n.toNat, by omega⟩
    have hC := cut_n a k (by omega)
    simp only [Int.toNat_natCast] at hb
    clear hn0 hn1
    refine wp_region_noPanic ?_
    refine wp_region_held_drew (S := fun W => Below X.heap.size X W ∧ LP W w.heap.size 0 p ∧ LA W (w.heap.size + 1) 0 a ∧ W.cell? ⟨w.heap.size, 16, none⟩ = some (.int .i64 (k : Int))) (by kernel_rfl) (HK.out _ (Below.refl _ _).drew) (fun hHeld => ?_)
    refine tL 0 rfl (yP p (fun w h => h.2.1) (by rfl) rfl rfl) ?_
    refine r1 1 fun K hK => ?_
    go_simp
    refine (hChk _).mono ?_
    rintro e w1 ⟨rfl, hB1⟩
    refine oK hK (by exact HK.out _ (hHeld.1.trans (hB1.mono hHeld.1.size))) fun hHeld => ?_
    clear hK K
    refine tA 2 ?_
    refine tA 3 ?_
    refine tL 4 rfl (yA a (fun w h => h.2.2.1) (by rfl) rfl rfl) ?_
    refine tA 5 ?_
    refine tA 6 ?_
    refine tA 8 ?_
    refine tL 9 rfl (yA p.a (fun w h => h.2.1.a) (by rfl) rfl rfl) ?_
    refine r1 7 fun K hK => ?_
    go_simp
    refine (hC _).mono ?_
    rintro e w2 ⟨rfl, hB2⟩
    refine oK hK (by exact HK.out _ (hHeld.1.trans (hB2.mono hHeld.1.size))) fun hHeld => ?_
    clear hK K
    refine tA 10 ?_
    refine tA 11 ?_
    refine tA 12 ?_
    refine dN ?_
    refine NoPanic.normal ?_
    go_wp2
    go_ret
    exact ⟨by rw [HF.out]; rfl, hB.trans (hHeld.1.mono (by omega))⟩
  · subst h0
    refine wp_region_noPanic ?_
    refine wp_region_held_drew (S := fun W => Below X.heap.size X W ∧ LP W w.heap.size 0 p ∧ LA W (w.heap.size + 1) 0 a ∧ W.cell? ⟨w.heap.size, 16, none⟩ = some (.int .i64 n)) (by kernel_rfl) (HK.out _ (Below.refl _ _).drew) (fun hHeld => ?_)
    refine tL 0 rfl (yP p (fun w h => h.2.1) (by rfl) rfl rfl) ?_
    refine r1 1 fun K hK => ?_
    go_simp
    refine (hChk _).mono ?_
    rintro e w1 ⟨rfl, hB1⟩
    refine oK hK (by exact HK.out _ (hHeld.1.trans (hB1.mono hHeld.1.size))) fun hHeld => ?_
    clear hK K
    refine tA 2 ?_
    refine tA 3 ?_
    refine tN 4 ?_
    refine tN 5 ?_
    refine tN 6 ?_
    refine tN 7 ?_
    refine tN 8 ?_
    refine tN 9 ?_
    refine tN 10 ?_
    refine tA 11 ?_
    refine tA 12 ?_
    refine dN ?_
    refine NoPanic.normal ?_
    go_wp2
    go_ret
    exact ⟨by rw [HF.out]; rfl, hB.trans (hHeld.1.mono (by omega))⟩
end Go.Proofs.YtdibjgcokebfbaaGreat

namespace Go.Proofs.YtdibjgcokebfbaaGreat
open Go.RowKit
set_option linter.unusedSimpArgs false
set_option maxRecDepth 20000

/-- The first of two numbers that is not 0. -/
def orI (x y : Int) : Int := if x = 0 then y else x
theorem orErr (x y : Int) (t : TypeId) (w : World) : Calls Tryz.prog 98 #[.slice (some ⟨w.heap.size, 0, none⟩) 2 2] (w.alloc (.cells #[.int .i64 x, .int .i64 y] t)) fun e w' => e = .returned (.int .i64 (orI x y)) ∧ w' = w.alloc (.cells #[.int .i64 x, .int .i64 y] t) := by
  have hR := Row.new w t [.int .i64 x, .int .i64 y]
  have c0 := hR.cell 0
  have c1 := hR.cell 1
  simp only [List.getElem?_cons_zero, List.getElem?_cons_succ] at c0 c1
  have HE : Hid (orI x y = if x = 0 then y else x) := rfl
  refine name_world (R := fun W => Calls _ _ _ W fun e w' => e = _ ∧ w' = W) (P := fun W => W.cell? ⟨w.heap.size, 0, none⟩ = some (.int .i64 x) ∧ W.cell? ⟨w.heap.size, 1, none⟩ = some (.int .i64 y)) _ ⟨c0, c1⟩ ?_
  clear hR c0 c1
  rintro W ⟨c0, c1⟩
  go_enter Tryz.func98, Tryz.ntmps98
  go_wp2
  go_loopw [8] (fun i wr => wr = W ∧ (i = .int .i64 0 ∨ i = .int .i64 1 ∧ x = 0 ∨ i = .int .i64 2 ∧ x = 0 ∧ y = 0)) (fun i _ => 2 - (intOf i).toNat)
  case atStart => exact ⟨rfl, .inl rfl⟩
  case round =>
    obtain ⟨rfl, rfl | ⟨rfl, h⟩ | ⟨rfl, h, h'⟩⟩ := hrel
    · by_cases hx : x = 0
      · have hx' : (x != 0) = false := by simp [hx]
        have HX : Hid (x = 0) := hx
        clear hx
        go_wp2
        go_roundw
        case rel => exact ⟨trivial, .inr (.inl ⟨by go_num, HX.out⟩)⟩
        case measure => simp [intOf]
      · have hx' : (x != 0) = true := by simp [hx]
        have HX : Hid (x ≠ 0) := hx
        clear hx
        go_wp2
        go_ret
        exact ⟨by rw [HE.out, if_neg HX.out]; rfl, rfl⟩
    · have HX : Hid (x = 0) := h
      clear h
      by_cases hx : y = 0
      · have hx' : (y != 0) = false := by simp [hx]
        have HY : Hid (y = 0) := hx
        clear hx
        go_wp2
        go_roundw
        case rel => exact ⟨trivial, .inr (.inr ⟨by go_num, HX.out, HY.out⟩)⟩
        case measure => simp [intOf]
      · have hx' : (y != 0) = true := by simp [hx]
        clear hx
        go_wp2
        go_ret
        exact ⟨by rw [HE.out, if_pos HX.out]; rfl, rfl⟩
    · have HX : Hid (x = 0) := h
      have HY : Hid (y = 0) := h'
      clear h h'
      go_wp2
      go_ret
      exact ⟨by rw [HE.out, if_pos HX.out, HY.out]; rfl, rfl⟩
/-- What CheckPair answers. -/
def chkQ (q : Pr) : Int := if orI (chk q.d) (chk q.s) ≠ 0 then orI (chk q.d) (chk q.s) else if famP q.d = famP q.s then 0 else 21
theorem checkQ_any (p : Pr) (w : World) : Calls Tryz.prog 65 #[(Value.agg (qcells p).toArray)] w (Gives w (.int .i64 (chkQ p))) := by
  have hCd := acheck_any p.d
  have hCs := acheck_any p.s
  have hFd := pfam_any p.d
  have hFs := pfam_any p.s
  obtain ⟨x, hx⟩ : ∃ x, chk p.d = x := ⟨_, rfl⟩
  obtain ⟨y, hy⟩ : ∃ x, chk p.s = x := ⟨_, rfl⟩
  obtain ⟨u, hu⟩ : ∃ x, famP p.d = x := ⟨_, rfl⟩
  obtain ⟨v, hv⟩ : ∃ x, famP p.s = x := ⟨_, rfl⟩
  obtain ⟨z, hz⟩ : ∃ z, orI x y = z := ⟨_, rfl⟩
  have hOr := orErr x y
  rw [hz] at hOr
  rw [hx] at hCd
  rw [hy] at hCs
  rw [hu] at hFd
  rw [hv] at hFs
  have HF : Hid (chkQ p = if z ≠ 0 then z else if u = v then 0 else 21) := by show _ = _; simp only [chkQ, hx, hy, hu, hv, hz]
  clear hx hy hu hv hz
  go_enter Tryz.func65, Tryz.ntmps65
  go_wp2
  refine name_world (R := fun W => Code.wp _ _ _ _ W) (P := fun W => Below w.heap.size w W ∧ LQ W w.heap.size 0 p ∧ w.heap.size < W.heap.size) _ ⟨ba _ _, LQ.new _ _ _, by simp⟩ ?_
  rintro X ⟨hB, hP, hs⟩
  have HK : Hid (∀ W, Below X.heap.size X W → Below X.heap.size X W ∧ LQ W w.heap.size 0 p) := fun W h => ⟨h, hP.below h hs⟩
  refine wp_region_noPanic ?_
  refine wp_region_held_drew (S := fun W => Below X.heap.size X W ∧ LQ W w.heap.size 0 p) (by kernel_rfl) (HK.out _ (Below.refl _ _).drew) (fun hHeld => ?_)
  refine tA 0 ?_
  refine tL 1 rfl (yP p.d (fun w h => h.2.d) (by rfl) rfl rfl) ?_
  refine tA 3 ?_
  refine tL 4 rfl (yP p.s (fun w h => h.2.s) (by rfl) rfl rfl) ?_
  refine r1 2 fun K hK => ?_
  go_simp
  refine (hCd _).mono ?_
  rintro e w1 ⟨rfl, hB1⟩
  refine oK hK (by exact HK.out _ (hHeld.1.trans (hB1.mono hHeld.1.size))) fun hHeld => ?_
  clear hK K
  refine r1 5 fun K hK => ?_
  go_simp
  refine (hCs _).mono ?_
  rintro e w2 ⟨rfl, hB2⟩
  refine oK hK (by exact HK.out _ (hHeld.1.trans (hB2.mono hHeld.1.size))) fun hHeld => ?_
  clear hK K
  refine r1 6 fun K hK => ?_
  go_simp
  refine oK hK (by exact HK.out _ (hHeld.1.alloc hHeld.1.size _)) fun hHeld => ?_
  clear hK K
  refine r1 7 fun K hK => ?_
  go_simp
  refine (hOr _ _).mono ?_
  rintro e w2 ⟨rfl, rfl⟩
  refine oK hK (by exact hHeld) fun hHeld => ?_
  clear hK K
  refine tA 8 ?_
  refine dN ?_
  refine NoPanic.normal ?_
  refine name_world (R := fun W => Exit.then _ _ _ _ W) (P := fun W => Below w.heap.size w W ∧ LQ W w.heap.size 0 p ∧ w.heap.size < W.heap.size) _ ⟨hB.trans (hHeld.1.mono (by omega)), hHeld.2, Nat.lt_of_lt_of_le hs hHeld.1.size⟩ ?_
  clear hHeld HK hB hP
  rintro X ⟨hB, hP, hs⟩
  have HK : Hid (∀ W, Below X.heap.size X W → Below X.heap.size X W ∧ LQ W w.heap.size 0 p) := fun W h => ⟨h, hP.below h hs⟩
  by_cases hz : z = 0
  · have hz' : (z != 0) = false := by simp [hz]
    have HZ : Hid (z = 0) := hz
    clear hz
    go_wp2
    refine wp_region_noPanic ?_
    refine wp_region_held_drew (S := fun W => Below X.heap.size X W ∧ LQ W w.heap.size 0 p) (by kernel_rfl) (HK.out _ (Below.refl _ _).drew) (fun hHeld => ?_)
    refine tA 0 ?_
    refine tL 1 rfl (yP p.d (fun w h => h.2.d) (by rfl) rfl rfl) ?_
    refine tA 3 ?_
    refine tL 4 rfl (yP p.s (fun w h => h.2.s) (by rfl) rfl rfl) ?_
    refine r1 2 fun K hK => ?_
    go_simp
    refine (hFd _).mono ?_
    rintro e w1 ⟨rfl, hB1⟩
    refine oK hK (by exact HK.out _ (hHeld.1.trans (hB1.mono hHeld.1.size))) fun hHeld => ?_
    clear hK K
    refine r1 5 fun K hK => ?_
    go_simp
    refine (hFs _).mono ?_
    rintro e w2 ⟨rfl, hB2⟩
    refine oK hK (by exact HK.out _ (hHeld.1.trans (hB2.mono hHeld.1.size))) fun hHeld => ?_
    clear hK K
    refine tA 6 ?_
    refine dN ?_
    refine NoPanic.normal ?_
    have hW := hB.trans (hHeld.1.mono (show w.heap.size ≤ X.heap.size by omega))
    clear hHeld
    go_wp2
    · have h : ¬ u = v := by simpa using ‹(u != v) = true›
      go_ret
      exact ⟨by rw [HF.out, if_neg (fun q => q HZ.out), if_neg h]; rfl, hW⟩
    · have h : u = v := by simpa using ‹(u != v) = false›
      go_ret
      exact ⟨by rw [HF.out, if_neg (fun q => q HZ.out), if_pos h]; rfl, hW⟩
  · have hz' : (z != 0) = true := by simp [hz]
    have HZ : Hid (z ≠ 0) := hz
    clear hz
    go_wp2
    go_ret
    exact ⟨by rw [HF.out, if_pos HZ.out]; rfl, hB⟩
end Go.Proofs.YtdibjgcokebfbaaGreat
