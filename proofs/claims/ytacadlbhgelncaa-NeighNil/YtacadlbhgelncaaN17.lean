/-
  live of the laws of neigh.
-/
import Derived.Test.YtacadlbhgelncaaN16
namespace Go.Proofs.Ytacadlbhgelncaa
open Lk (Hi hcs hcs_one)
open Rk (Rt rcs rtV)
open Go.RowKit Go.Maps Go.Shelf
set_option linter.unusedSimpArgs false
set_option linter.unusedVariables false
set_option maxRecDepth 20000
theorem Newd.tb {w w' : World} {t mb : Nat} {most : Int} {fa : Value} {F : List Fc} (h : Newd w w' t mb most fa F) (hf : ∀ f ∈ F, f.ok) (hl : F.length ≤ 1000000) : Tb w' t mb most F [] := by
  obtain ⟨ad, c, rfl, hat⟩ := Kd.own_at h.fs
  refine ⟨⟨ad, c, h.row, ?_, ?_⟩, h.map, hf, by simp, hl, by simp⟩
  · by_cases e : F = []
    · exact .inl e
    · obtain ⟨g, rfl, _, hg, _, hc⟩ := hat e
      exact .inr ⟨g, 0, rfl, hg, fun j f hj => by rw [Nat.zero_add]; exact hc j f hj⟩
  · intro g o e
    subst e
    rcases h.fs.2 with ⟨e, _⟩ | ⟨g', cap, cur, e, _, hh, _⟩
    · cases e
    · cases e; exact ⟨_, _, _, hh⟩
def wiA : Ad := ⟨[254, 128, 0, 0, 0, 0, 0, 0, 0, 0, 0, 0, 0, 0, 0, 1], rfl⟩
def frA : Ad := ⟨[254, 128, 0, 0, 0, 0, 0, 0, 0, 0, 0, 0, 0, 0, 0, 2], rfl⟩
def wiC : Ic := ⟨⟨#[101, 48]⟩, 0, 96, 4000, 16000, 1280, wiA, zeroA, ⟨false, 0, 0, 0, 0⟩⟩
theorem bdWA (w : World) : (Instr.build 29 #[(0, .int .u8 254), (1, .int .u8 128), (15, .int .u8 1)]).run Try.prog w = .ok (Value.agg (acells wiA).toArray) w := by kernel_rfl
theorem bdFA (w : World) : (Instr.build 29 #[(0, .int .u8 254), (1, .int .u8 128), (15, .int .u8 2)]).run Try.prog w = .ok (Value.agg (acells frA).toArray) w := by kernel_rfl
theorem bdWC (w : World) : (Instr.build 66 #[(0, .string ⟨#[101, 48]⟩), (2, .int .i64 96), (3, .int .i64 4000), (4, .int .i64 16000), (5, .int .i64 1280), (6, (Value.agg (acells wiA).toArray))]).run Try.prog w = .ok (.agg (ics wiC).toArray) w := by kernel_rfl
theorem bsC1 (w : World) : (Instr.buildSlice 22 1 #[(0, .agg (ics wiC).toArray)]).run Try.prog w = .ok (.slice (some ⟨w.heap.size, 0, none⟩) 1 1) (w.alloc (.cells (ics wiC).toArray 66)) := by kernel_rfl
theorem wired_any (w : World) : Calls Try.prog 23 #[] w (Gives w (.agg (ics wiC).toArray)) := by
  go_enter Try.func23, Try.ntmps23
  go_wp2_with (first
    | (have kk := r2; refine stC (.tmp 0) (.tmp 2) rfl rfl g2 wiC _ rfl rfl r2 ?_; intro W3 g3 r3)
    | (have kk := r2; (with_reducible refine bdG (T := 66) (v := .agg (ics wiC).toArray) [(0, .const (.string ⟨#[101, 48]⟩)), (2, .const (.int .i64 96)), (3, .const (.int .i64 4000)), (4, .const (.int .i64 16000)), (5, .const (.int .i64 1280)), (6, .tmp 1)] ?_ ?_ ?_ ?_); (focus rfl); (focus rfl); (focus exact bdWC _))
    | (have kk := r2; (with_reducible refine bdG (T := 29) (v := (Value.agg (acells wiA).toArray)) [(0, .const (.int .u8 254)), (1, .const (.int .u8 128)), (15, .const (.int .u8 1))] ?_ ?_ ?_ ?_); (focus rfl); (focus rfl); (focus exact bdWA _))
    | (refine alG infoCz rfl rfl ?_; intro g2 W2 hge2 hgl2 hB2 r2))
  exact bodyPost_ret (retC rfl _ _ 0 rfl (lvC r3)) rfl ⟨rfl, grown_below g3 hB2 hge2 hB2.size⟩
theorem num_any (e : Int) (w : World) : Calls Try.prog 18 #[.int .i64 e] w fun x w' => x = .returned (.int .i64 e) ∧ w = w' := by
  go_enter Try.func18, Try.ntmps18
  go_wp2
  go_ret
  exact ⟨by first | rfl | simp, rfl⟩
def fcL : Fc := faceI wiC
def tlH (j : Nat) : Tl := { zeroT with ty := 4, seq := j, intv := 400 }
def tlI : Tl := { zeroT with ty := 5, rx := 96, intv := 1200 }
theorem bdH (j : Nat) (w : World) : (Instr.build 39 #[(0, .int .u8 4), (3, .int .u16 (j : Int)), (2, .int .u16 400)]).run Try.prog w = .ok (.agg (tcells (tlH j)).toArray) w := by kernel_rfl
theorem bdI (w : World) : (Instr.build 39 #[(0, .int .u8 5), (4, .int .u16 96), (2, .int .u16 1200)]).run Try.prog w = .ok (.agg (tcells tlI).toArray) w := by kernel_rfl
def stL : Nat → List Ng
  | 0 => []
  | j + 1 => (helloR 4 [fcL] (stL j) (j * 4000) 0 frA (tlH j)).2
def n3 : Ng := match stL 3 with | [n] => n | _ => zeroN
theorem st3 : stL 3 = [n3] := by kernel_rfl
theorem he0 : (helloR 4 [fcL] (stL 0) ((0 : Nat) * 4000) 0 frA (tlH 0)).1 = 0 := by kernel_rfl
theorem he1 : (helloR 4 [fcL] (stL 1) ((1 : Nat) * 4000) 0 frA (tlH 1)).1 = 0 := by kernel_rfl
theorem he2 : (helloR 4 [fcL] (stL 2) ((2 : Nat) * 4000) 0 frA (tlH 2)).1 = 0 := by kernel_rfl
theorem co3 : costT [fcL] [n3] 0 frA = 65535 := by kernel_rfl
theorem rx3 : rxT [fcL] [n3] 0 frA = 96 := by kernel_rfl
def n4 : Ng := toldN n3 8000 tlI
theorem ih4 : ihuR [fcL] [n3] 0 frA tlI n4 = (0, [n4]) := by kernel_rfl
theorem co4 : costT [fcL] [n4] 0 frA = 96 := by kernel_rfl
def n5 : Ng := agedN n4 14000
theorem co5 : costT [fcL] [n5] 0 frA = 96 := by kernel_rfl
def n6 : Ng := agedN n5 18000
theorem co6 : costT [fcL] [n6] 0 frA = 65535 := by kernel_rfl
theorem li5 : decide (n5.m.b = 0 ∧ n5.u.b = 0) = false := by kernel_rfl
theorem li6 : decide (n6.m.b = 0 ∧ n6.u.b = 0) = false := by kernel_rfl
theorem hr3 : n3.hr = false := by kernel_rfl
theorem len_st (j : Nat) (hj : j ≤ 3) : (stL j).length < 1000000 := by
  match j, hj with
  | 0, _ => decide
  | 1, _ => exact of_decide_eq_true (by kernel_rfl)
  | 2, _ => exact of_decide_eq_true (by kernel_rfl)
  | 3, _ => exact of_decide_eq_true (by kernel_rfl)
end Go.Proofs.Ytacadlbhgelncaa
