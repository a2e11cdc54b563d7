/-
  The contracts of ack and ackReq of package packet.
-/
import Derived.Test.YtaleclmccmeglaaStm
namespace Go.Proofs.Ytaleclmccmeglaa
open Go.RowKit
set_option linter.unusedSimpArgs false
set_option maxRecDepth 20000
variable {bv : Option Addr}

/-- A Tlv, wherever its Stamps lie. -/
structure TK where
  ty : Nat
  nonce : Nat
  intv : Nat
  seq : Nat
  rx : Nat
  met : Nat
  hops : Nat
  uni : Bool
  all : Bool
  id : Id8
  ad : Ad
  pr : Pr
  st : List UInt32
def Tl.key (t : Tl) : TK := ⟨t.ty, t.nonce, t.intv, t.seq, t.rx, t.met, t.hops, t.uni, t.all, t.id, t.ad, t.pr, t.st⟩
def zeroK : TK := zeroT.key
/-- What a piece that may say something tells: a Tlv, whether it does; the Stamps lie in memory of the call's own. -/
def Stms (B : Nat) (w : World) (t : Tl) : Prop := w.ownsRow B 77 1 (.slice t.sa t.sn t.sc) t.sn (wcells t.st)
def SayR (w : World) (k : TK) (ok : Bool) (e : Ending) (w' : World) : Prop := ∃ t, e = .returned (.tuple #[.agg (tcells t).toArray, .bool ok]) ∧ (ok = true → t.key = k) ∧ Stms w.heap.size w' t
theorem Stms.none (B : Nat) (w : World) (t : Tl) (h1 : t.sa = none) (h2 : t.sn = 0) (h3 : t.sc = 0) (h4 : t.st = []) : Stms B w t := by
  unfold Stms
  rw [h1, h2, h3, h4]
  exact World.ownsRow_nil _ _ _ _
def ackB (l : List UInt8) (r : RS) : Bool := wiB [] l (r.adv l 2)
def ackK (l : List UInt8) (r : RS) : TK := { zeroK with ty := 3, nonce := r.val l 2 }
theorem ack_any {w : World} {P g : Nat} {l : List UInt8} {r : RS} (hp : Pg w P g) (h : RdS w g bv l r) (hl : l.length ≤ 100000) :
    Calls Try.prog 44 #[.pointer (some ⟨P, 0, none⟩)] w fun e w' => SayR w (ackK l r) (ackB l r) e w' ∧ ∃ r', NowS w w' g bv l r' := by
  have hlt := h.lt
  obtain ⟨x, hx⟩ : ∃ x, Hid (r.val l 2 = x) := ⟨_, rfl⟩
  have HU : Hid (∀ W, RdS W g bv l r → Calls Try.prog 36 #[.pointer (some ⟨g, 0, none⟩)] W fun e w' => e = .returned (.int .u16 (x : Int)) ∧ NowS W w' g bv l (r.adv l 2)) := fun W h => by rw [← hx.out]; exact u16_r h
  have HW : Hid (∀ W, Pg W P g → RdS W g bv l (r.adv l 2) → Calls Try.prog 72 #[.pointer (some ⟨P, 0, none⟩), .slice none 0 0] W fun e w' => ∃ a' c' n, e = .returned (.tuple #[.slice a' n c', .bool (ackB l r)]) ∧ NowS W w' g bv l (wiR l (r.adv l 2))) := fun W h1 h2 => by
    refine (within_any h1 h2 hl none 0 0 [] (Src.nil _) (by decide) (fun _ h => by cases h)).mono ?_
    rintro e w' ⟨a', c', ps, rfl, _, _, _, hn⟩
    exact ⟨a', c', _, rfl, hn⟩
  have hEK : Hid (ackK l r = { zeroK with ty := 3, nonce := x }) := by show _ = _; unfold ackK; rw [hx.out]
  generalize ackB l r = b at *
  go_enter Try.func44, Try.ntmps44
  go_wp2_with (first
    | (have kk := hn2; refine stT (.tmp 2) (.tmp 18) (by rfl) rfl gA { zeroT with ty := 3, nonce := x } _ rfl rfl rA2 ?_; intro w4 hg4 r4)
    | (have kk := hn2; refine ldT (.tmp 4) (by rfl) rfl gB { zeroT with ty := 3, nonce := x } rfl rB2 ?_)
    | (go_at_call 72; have kk := rC; refine (HW.out _ hpC nC.rd).mono ?_; rintro e w3 ⟨a3, c3, n3, rfl, hn2⟩; have rA2 := rAC.nowS hn2 hgA; have rB2 := rC.nowS hn2 hgB)
    | (have kk := rB; refine stT (.tmp 4) (.tmp 12) (by rfl) rfl gB { zeroT with ty := 3, nonce := x } _ rfl rfl rB ?_; intro wC hgC rC; have hgB : gB ≠ g := (by omega); have nC : NowS w wC g bv l (r.adv l 2) := NowS.fresh h ((hn1.after a3).below b3) hgC (by omega); have hpC := hp.now nC; have rAC := (rA1.below b3 (by have := hn1.size; omega)).grown hgC (fun e => by have := Option.some.inj e; have := hn1.size; omega))
    | (have kk := hn1; refine alG infoTz (by rfl) rfl ?_; intro gB wB b1 b2 b3 rB; have hs1 := hn1.size; have hs2 := a3.size)
    | (go_at_call 36; refine (HU.out _ (h.below a3)).mono ?_; rintro e w1 ⟨rfl, hn1⟩; have hgA : gA ≠ g := (by omega); have rA1 := rA.nowS hn1 hgA)
    | (refine alG infoTz (by rfl) rfl ?_; intro gA wA a1 a2 a3 rA; have c1 := (hp.below a3).c))
  exact bodyPost_ret (retCT rfl _ _ 0 rfl (lvT r4)) rfl ⟨⟨{ zeroT with ty := 3, nonce := x }, rfl, fun _ => hEK.out.symm, Stms.none _ _ _ rfl rfl rfl rfl⟩, _, NowS.fresh h (nC.trans hn2) hg4 a1⟩
end Go.Proofs.Ytaleclmccmeglaa
