/-
  List.
-/
import Derived.Test.YtbjclphgabpgoaaR9
namespace Go.Proofs.Ytbjclphgabpgoaa
open Go.RowKit Go.Maps Go.Shelf
set_option linter.unusedSimpArgs false
set_option linter.unusedVariables false
set_option maxRecDepth 20000
theorem list_any {w : World} {t mb : Nat} {most : Int} {L : List Sr} (h : Tb w t mb most L) : Calls Try.prog 25 #[.pointer (some ⟨t, 0, none⟩)] w (Told w L) := by
  have hW : Calls Try.prog 37 #[.pointer (some ⟨t, 0, none⟩), .func (.func 40) #[] #[]] w (Told w L) := by
    have := where_any h (fun _ => true) 40 #[] (enters_of Try.func40 (by kernel_rfl) rfl) (fun n _ W _ => listC_any n W)
    rwa [show L.filter (fun _ => true) = L from List.filter_eq_self.2 (fun _ _ => rfl)] at this
  clear h
  go_enter Try.func25, Try.ntmps25
  go_wp2_with (go_at_call 37; refine hW.mono ?_; rintro e w1 ⟨a, c, K, rfl, hT⟩)
  go_ret
  exact ⟨a, c, K, rfl, hT⟩
end Go.Proofs.Ytbjclphgabpgoaa
