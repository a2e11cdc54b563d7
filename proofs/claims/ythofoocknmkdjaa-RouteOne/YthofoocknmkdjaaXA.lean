/-
  List, Of: the routes of all pairs, of one; what Retract, Tick, Drop look for.
-/
import Derived.Test.YthofoocknmkdjaaX9
namespace Go.Proofs.Ythofoocknmkdjaa
open Go.RowKit Go.Maps Go.Shelf
set_option linter.unusedSimpArgs false
set_option linter.unusedVariables false
set_option maxRecDepth 20000
theorem listC_any (n : Ro) (w : World) : Calls Try.prog 43 #[rV n] w (Gives w (.bool true)) := by
  go_enter Try.func43, Try.ntmps43
  go_wp2
  go_ret
  exact ⟨rfl, ba _ _⟩
theorem ofC_any (n : Ro) (p : Pr) (g : Nat) (w : World) (hr : Row w g 36 (qcells p)) : Calls Try.prog 44 #[rV n, .pointer (some ⟨g, 0, none⟩)] w (Gives w (.bool (qB n.p p))) := by
  have r0 := Row.new w 41 (ocs n)
  have r1 := hr.alloc (.cells (ocs n).toArray 41)
  have hq := run_eqlQ n.p p
  go_enter Try.func44, Try.ntmps44
  go_wp2_with (first
    | (refine ldQ (.tmp 1) rfl rfl _ _ p rfl r1.range ?_)
    | (refine ldQ (.tmp 4) rfl rfl _ _ n.p rfl r0.ro.q ?_))
  go_ret
  exact ⟨rfl, ba _ _⟩
theorem tickC_any (n : Ro) (now : Int) (g : Nat) (w : World) (hr : Row w g 3 [.int .i64 now]) : Calls Try.prog 51 #[rV n, .pointer (some ⟨g, 0, none⟩)] w (Gives w (.bool (decide (n.u ≤ now)))) := by
  have c0 := ((Row.new w 41 (ocs n)).cell 78).trans (oc78 n)
  have c1 := (hr.alloc (.cells (ocs n).toArray 41)).cell 0
  clear hr
  go_enter Try.func51, Try.ntmps51
  go_wp2_with fail
  go_ret
  exact ⟨rfl, ba _ _⟩
theorem list_nil (w : World) : Calls Try.prog 14 #[.pointer none] w fun e w' => e = .returned (.slice none 0 0) ∧ w = w' := by
  go_enter Try.func14, Try.ntmps14
  go_wp2_with (go_at_call 42; refine (where_nil _ _).mono ?_; rintro e w1 ⟨rfl, rfl⟩)
  go_ret
  exact ⟨rfl, rfl⟩
theorem list_any {w : World} {t mb : Nat} {most : Int} {L : List Ro} (h : Tb w t mb most L) : Calls Try.prog 14 #[.pointer (some ⟨t, 0, none⟩)] w (Told w L) := by
  have hW : Calls Try.prog 42 #[.pointer (some ⟨t, 0, none⟩), .func (.func 43) #[] #[]] w (Told w L) := by
    have := where_any h (fun _ => true) 43 #[] (enters_of Try.func43 (by kernel_rfl) rfl) (fun n _ W _ => listC_any n W)
    rwa [show L.filter (fun _ => true) = L from List.filter_eq_self.2 (fun _ _ => rfl)] at this
  clear h
  go_enter Try.func14, Try.ntmps14
  go_wp2_with (go_at_call 42; refine hW.mono ?_; rintro e w1 ⟨a, c, K, rfl, hT⟩)
  go_ret
  exact ⟨a, c, K, rfl, hT⟩
theorem of_nil (p : Pr) (w : World) : Calls Try.prog 21 #[.pointer none, (Value.agg (qcells p).toArray)] w (Gives w (.slice none 0 0)) := by
  have hmf : ∀ (fn : Fn) (first cap : Array Value) (w : World), (Instr.makeFunc fn first cap).run Try.prog w = .ok (.func fn first cap) w := fun _ _ _ _ => rfl
  go_enter Try.func21, Try.ntmps21
  go_wp2_with (go_at_call 42; refine (where_nil _ _).mono ?_; rintro e w1 ⟨rfl, rfl⟩)
  go_ret
  exact ⟨rfl, ba _ _⟩
theorem of_any {w : World} {t mb : Nat} {most : Int} {L : List Ro} (h : Tb w t mb most L) (p : Pr) : Calls Try.prog 21 #[.pointer (some ⟨t, 0, none⟩), (Value.agg (qcells p).toArray)] w (Told w (L.filter fun n => qB n.p p)) := by
  have hmf : ∀ (fn : Fn) (first cap : Array Value) (w : World), (Instr.makeFunc fn first cap).run Try.prog w = .ok (.func fn first cap) w := fun _ _ _ _ => rfl
  have hW : Calls Try.prog 42 #[.pointer (some ⟨t, 0, none⟩), .func (.func 44) #[] #[.pointer (some ⟨w.heap.size, 0, none⟩)]] (w.alloc (.cells (qcells p).toArray 36)) (Told w (L.filter fun n => qB n.p p)) := by
    have r0 := Row.new w 36 (qcells p)
    refine (where_any (h.below (ba w _)) (fun n => qB n.p p) 44 #[.pointer (some ⟨w.heap.size, 0, none⟩)] (enters_of Try.func44 (by kernel_rfl) rfl) (fun n _ W hW => ofC_any n p w.heap.size W (r0.below hW (by simp)))).mono ?_
    rintro e w' ⟨a, c, K, rfl, k1, k2, k3, k4⟩
    exact ⟨a, c, K, rfl, k1, k2, Kd.own_up k3 (by simp), bt (ba _ _) k4⟩
  clear h
  go_enter Try.func21, Try.ntmps21
  go_wp2_with (go_at_call 42; refine hW.mono ?_; rintro e w1 ⟨a, c, K, rfl, hT⟩)
  go_ret
  exact ⟨a, c, K, rfl, hT⟩
end Go.Proofs.Ythofoocknmkdjaa
