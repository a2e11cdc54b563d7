/-
  What an operand is in a frame behind writes that are not yet carried out.
-/
import Derived.Test.YtadnnjngflphjaaV0
namespace Go.Proofs.Ytadnnjngflphjaa
open Go.RowKit
theorem ev_no {a : Act} {o : Operand} {v u : Value} (h : a.eval o = u) : (a.put none v).eval o = u := h
theorem ev_ne {a : Act} {d k : Nat} {v u : Value} (h : a.eval (.tmp k) = u) (hd : (d == k) = false) : (a.put (some d) v).eval (.tmp k) = u := by
  rw [← h]
  have hne : d ≠ k := fun e => by rw [e] at hd; simp at hd
  show (a.tmps.setIfInBounds d v).getD k undef = a.tmps.getD k undef
  rw [Array.getD_eq_getD_getElem?, Array.getD_eq_getD_getElem?, Array.getElem?_setIfInBounds, if_neg hne]
theorem sz_no {a : Act} {v : Value} {n : Nat} (h : a.tmps.size = n) : (a.put none v).tmps.size = n := h
theorem sz_put {a : Act} {d n : Nat} {v : Value} (h : a.tmps.size = n) : (a.put (some d) v).tmps.size = n := by
  rw [← h]
  show (a.tmps.setIfInBounds d v).size = _
  simp
theorem ev_eq {a : Act} {d n : Nat} {v : Value} (h : a.tmps.size = n) (hd : Nat.ble (d + 1) n = true) : (a.put (some d) v).eval (.tmp d) = v := by
  have hlt : d < a.tmps.size := by rw [h]; exact Nat.le_of_ble_eq_true hd
  show (a.tmps.setIfInBounds d v).getD d undef = v
  rw [Array.getD_eq_getD_getElem?, Array.getElem?_setIfInBounds_self_of_lt hlt]
  rfl
end Go.Proofs.Ytadnnjngflphjaa
