/-
  The document's Check for every Tlv.
-/
import Derived.Test.YtdibjgcokebfbaaGreatM25
import Derived.Test.YtdibjgcokebfbaaGreatM28
import Derived.Test.YtdibjgcokebfbaaGreatM20
import Derived.Test.YtdibjgcokebfbaaGreatM10
namespace Go.Proofs.YtdibjgcokebfbaaGreat
open Go.RowKit
set_option linter.unusedSimpArgs false
set_option linter.unusedVariables false
set_option maxRecDepth 20000

/-- What the document's Check answers, from what it asks. -/
def rV (k : TK) (b bz bf : Bool) (q : Int) : Int :=
  if b = false then 2 else if k.ty = 8 ∧ k.all = true ∧ k.met ≠ 65535 then 2 else if k.ty = 8 ∧ k.met ≠ 65535 ∧ (bz || bf) = true then 2
  else if k.ty = 10 ∧ (bz = true ∨ k.hops = 0) then 2 else if ((k.ty = 8 ∨ k.ty = 9) ∧ k.all = false) ∨ k.ty = 10 then q else 0
def stOk (k : TK) : Bool := decide (k.st.length = 0 ∨ (k.ty = 4 ∧ k.st.length = 1) ∨ (k.ty = 5 ∧ k.st.length = 2))
set_option maxHeartbeats 8000000 in
theorem rck_no (t : Tl) (w : World) (hno : namB t.ty = false) :
    Calls Tryz.prog 11 #[.agg (tcells t).toArray] w fun e w' => e = .returned (.int .i64 2) ∧ Below w.heap.size w w' := by
  have T0 : (tcells t)[0]? = some (.int .u8 (t.ty : Int)) := rfl
  have T67 : (tcells t)[67]? = some (.slice t.sa t.sn t.sc) := tcells_get t
  have q : ((t.ty : Int) == 2) = false ∧ ((t.ty : Int) == 3) = false ∧ ((t.ty : Int) == 4) = false ∧ ((t.ty : Int) == 5) = false ∧ ((t.ty : Int) == 8) = false ∧ ((t.ty : Int) == 9) = false ∧ ((t.ty : Int) == 10) = false := by
    have := of_decide_eq_false hno
    simp
    omega
  obtain ⟨q2, q3, q4, q5, q8, q9, q10⟩ := q
  clear hno
  generalize (t.ty : Int) = y at *
  generalize t.sa = sa at *
  generalize t.sn = sn at *
  generalize t.sc = sc at *
  go_enter Tryz.func11, Tryz.ntmps11
  go_wp2
  go_quiet (fail)
  have HB := below_drewN (ba w (.cells (tcells t).toArray 45)) nq
  go_wp2
  go_ret
  exact ⟨rfl, HB⟩
set_option maxHeartbeats 8000000 in
theorem rck_b2_1 (t : Tl) (w : World) (hy : t.ty = 2) (hn : t.sn = 1) :
    Calls Tryz.prog 11 #[.agg (tcells t).toArray] w fun e w' => e = .returned (.int .i64 2) ∧ Below w.heap.size w w' := by
  have T0 : (tcells t)[0]? = some (.int .u8 2) := by show some (Value.int .u8 (t.ty : Int)) = _; rw [hy]; rfl
  clear hy
  have T67 : (tcells t)[67]? = some (.slice t.sa 1 t.sc) := by rw [tcells_get, hn]
  clear hn
  generalize t.sa = sa at *
  generalize t.sc = sc at *
  go_enter Tryz.func11, Tryz.ntmps11
  go_wp2
  go_quiet (fail)
  have HB := below_drewN (ba w (.cells (tcells t).toArray 45)) nq
  go_wp2
  go_ret
  exact ⟨rfl, HB⟩
set_option maxHeartbeats 8000000 in
theorem rck_b2_2 (t : Tl) (w : World) (hy : t.ty = 2) (hn : t.sn = 2) :
    Calls Tryz.prog 11 #[.agg (tcells t).toArray] w fun e w' => e = .returned (.int .i64 2) ∧ Below w.heap.size w w' := by
  have T0 : (tcells t)[0]? = some (.int .u8 2) := by show some (Value.int .u8 (t.ty : Int)) = _; rw [hy]; rfl
  clear hy
  have T67 : (tcells t)[67]? = some (.slice t.sa 2 t.sc) := by rw [tcells_get, hn]
  clear hn
  generalize t.sa = sa at *
  generalize t.sc = sc at *
  go_enter Tryz.func11, Tryz.ntmps11
  go_wp2
  go_quiet (fail)
  have HB := below_drewN (ba w (.cells (tcells t).toArray 45)) nq
  go_wp2
  go_ret
  exact ⟨rfl, HB⟩
set_option maxHeartbeats 8000000 in
theorem rck_b2_3 (t : Tl) (w : World) (hy : t.ty = 2) (hn : 2 < t.sn) :
    Calls Tryz.prog 11 #[.agg (tcells t).toArray] w fun e w' => e = .returned (.int .i64 2) ∧ Below w.heap.size w w' := by
  have T0 : (tcells t)[0]? = some (.int .u8 2) := by show some (Value.int .u8 (t.ty : Int)) = _; rw [hy]; rfl
  clear hy
  have T67 : (tcells t)[67]? = some (.slice t.sa t.sn t.sc) := tcells_get t
  have n0 : (0 : Int) < (t.sn : Int) := by omega
  have n00 : 0 < t.sn := by omega
  have n1 : ((t.sn : Int) == 1) = false := by simp; omega
  have n2 : ((t.sn : Int) == 2) = false := by simp; omega
  clear hn
  generalize t.sn = sn at *
  generalize t.sa = sa at *
  generalize t.sc = sc at *
  go_enter Tryz.func11, Tryz.ntmps11
  go_wp2
  go_quiet (fail)
  have HB := below_drewN (ba w (.cells (tcells t).toArray 45)) nq
  go_wp2
  go_ret
  exact ⟨rfl, HB⟩
set_option maxHeartbeats 8000000 in
theorem rck_b3_1 (t : Tl) (w : World) (hy : t.ty = 3) (hn : t.sn = 1) :
    Calls Tryz.prog 11 #[.agg (tcells t).toArray] w fun e w' => e = .returned (.int .i64 2) ∧ Below w.heap.size w w' := by
  have T0 : (tcells t)[0]? = some (.int .u8 3) := by show some (Value.int .u8 (t.ty : Int)) = _; rw [hy]; rfl
  clear hy
  have T67 : (tcells t)[67]? = some (.slice t.sa 1 t.sc) := by rw [tcells_get, hn]
  clear hn
  generalize t.sa = sa at *
  generalize t.sc = sc at *
  go_enter Tryz.func11, Tryz.ntmps11
  go_wp2
  go_quiet (fail)
  have HB := below_drewN (ba w (.cells (tcells t).toArray 45)) nq
  go_wp2
  go_ret
  exact ⟨rfl, HB⟩
set_option maxHeartbeats 8000000 in
theorem rck_b3_2 (t : Tl) (w : World) (hy : t.ty = 3) (hn : t.sn = 2) :
    Calls Tryz.prog 11 #[.agg (tcells t).toArray] w fun e w' => e = .returned (.int .i64 2) ∧ Below w.heap.size w w' := by
  have T0 : (tcells t)[0]? = some (.int .u8 3) := by show some (Value.int .u8 (t.ty : Int)) = _; rw [hy]; rfl
  clear hy
  have T67 : (tcells t)[67]? = some (.slice t.sa 2 t.sc) := by rw [tcells_get, hn]
  clear hn
  generalize t.sa = sa at *
  generalize t.sc = sc at *
  go_enter Tryz.func11, Tryz.ntmps11
  go_wp2
  go_quiet (fail)
  have HB := below_drewN (ba w (.cells (tcells t).toArray 45)) nq
  go_wp2
  go_ret
  exact ⟨rfl, HB⟩
set_option maxHeartbeats 8000000 in
theorem rck_b3_3 (t : Tl) (w : World) (hy : t.ty = 3) (hn : 2 < t.sn) :
    Calls Tryz.prog 11 #[.agg (tcells t).toArray] w fun e w' => e = .returned (.int .i64 2) ∧ Below w.heap.size w w' := by
  have T0 : (tcells t)[0]? = some (.int .u8 3) := by show some (Value.int .u8 (t.ty : Int)) = _; rw [hy]; rfl
  clear hy
  have T67 : (tcells t)[67]? = some (.slice t.sa t.sn t.sc) := tcells_get t
  have n0 : (0 : Int) < (t.sn : Int) := by omega
  have n00 : 0 < t.sn := by omega
  have n1 : ((t.sn : Int) == 1) = false := by simp; omega
  have n2 : ((t.sn : Int) == 2) = false := by simp; omega
  clear hn
  generalize t.sn = sn at *
  generalize t.sa = sa at *
  generalize t.sc = sc at *
  go_enter Tryz.func11, Tryz.ntmps11
  go_wp2
  go_quiet (fail)
  have HB := below_drewN (ba w (.cells (tcells t).toArray 45)) nq
  go_wp2
  go_ret
  exact ⟨rfl, HB⟩
set_option maxHeartbeats 8000000 in
theorem rck_b4_2 (t : Tl) (w : World) (hy : t.ty = 4) (hn : t.sn = 2) :
    Calls Tryz.prog 11 #[.agg (tcells t).toArray] w fun e w' => e = .returned (.int .i64 2) ∧ Below w.heap.size w w' := by
  have T0 : (tcells t)[0]? = some (.int .u8 4) := by show some (Value.int .u8 (t.ty : Int)) = _; rw [hy]; rfl
  clear hy
  have T67 : (tcells t)[67]? = some (.slice t.sa 2 t.sc) := by rw [tcells_get, hn]
  clear hn
  generalize t.sa = sa at *
  generalize t.sc = sc at *
  go_enter Tryz.func11, Tryz.ntmps11
  go_wp2
  go_quiet (fail)
  have HB := below_drewN (ba w (.cells (tcells t).toArray 45)) nq
  go_wp2
  go_ret
  exact ⟨rfl, HB⟩
set_option maxHeartbeats 8000000 in
theorem rck_b4_3 (t : Tl) (w : World) (hy : t.ty = 4) (hn : 2 < t.sn) :
    Calls Tryz.prog 11 #[.agg (tcells t).toArray] w fun e w' => e = .returned (.int .i64 2) ∧ Below w.heap.size w w' := by
  have T0 : (tcells t)[0]? = some (.int .u8 4) := by show some (Value.int .u8 (t.ty : Int)) = _; rw [hy]; rfl
  clear hy
  have T67 : (tcells t)[67]? = some (.slice t.sa t.sn t.sc) := tcells_get t
  have n0 : (0 : Int) < (t.sn : Int) := by omega
  have n00 : 0 < t.sn := by omega
  have n1 : ((t.sn : Int) == 1) = false := by simp; omega
  have n2 : ((t.sn : Int) == 2) = false := by simp; omega
  clear hn
  generalize t.sn = sn at *
  generalize t.sa = sa at *
  generalize t.sc = sc at *
  go_enter Tryz.func11, Tryz.ntmps11
  go_wp2
  go_quiet (fail)
  have HB := below_drewN (ba w (.cells (tcells t).toArray 45)) nq
  go_wp2
  go_ret
  exact ⟨rfl, HB⟩
set_option maxHeartbeats 8000000 in
theorem rck_b5_1 (t : Tl) (w : World) (hy : t.ty = 5) (hn : t.sn = 1) :
    Calls Tryz.prog 11 #[.agg (tcells t).toArray] w fun e w' => e = .returned (.int .i64 2) ∧ Below w.heap.size w w' := by
  have T0 : (tcells t)[0]? = some (.int .u8 5) := by show some (Value.int .u8 (t.ty : Int)) = _; rw [hy]; rfl
  clear hy
  have T67 : (tcells t)[67]? = some (.slice t.sa 1 t.sc) := by rw [tcells_get, hn]
  clear hn
  generalize t.sa = sa at *
  generalize t.sc = sc at *
  go_enter Tryz.func11, Tryz.ntmps11
  go_wp2
  go_quiet (fail)
  have HB := below_drewN (ba w (.cells (tcells t).toArray 45)) nq
  go_wp2
  go_ret
  exact ⟨rfl, HB⟩
set_option maxHeartbeats 8000000 in
theorem rck_b5_3 (t : Tl) (w : World) (hy : t.ty = 5) (hn : 2 < t.sn) :
    Calls Tryz.prog 11 #[.agg (tcells t).toArray] w fun e w' => e = .returned (.int .i64 2) ∧ Below w.heap.size w w' := by
  have T0 : (tcells t)[0]? = some (.int .u8 5) := by show some (Value.int .u8 (t.ty : Int)) = _; rw [hy]; rfl
  clear hy
  have T67 : (tcells t)[67]? = some (.slice t.sa t.sn t.sc) := tcells_get t
  have n0 : (0 : Int) < (t.sn : Int) := by omega
  have n00 : 0 < t.sn := by omega
  have n1 : ((t.sn : Int) == 1) = false := by simp; omega
  have n2 : ((t.sn : Int) == 2) = false := by simp; omega
  clear hn
  generalize t.sn = sn at *
  generalize t.sa = sa at *
  generalize t.sc = sc at *
  go_enter Tryz.func11, Tryz.ntmps11
  go_wp2
  go_quiet (fail)
  have HB := below_drewN (ba w (.cells (tcells t).toArray 45)) nq
  go_wp2
  go_ret
  exact ⟨rfl, HB⟩
set_option maxHeartbeats 8000000 in
theorem rck_b8_1 (t : Tl) (w : World) (hy : t.ty = 8) (hn : t.sn = 1) :
    Calls Tryz.prog 11 #[.agg (tcells t).toArray] w fun e w' => e = .returned (.int .i64 2) ∧ Below w.heap.size w w' := by
  have T0 : (tcells t)[0]? = some (.int .u8 8) := by show some (Value.int .u8 (t.ty : Int)) = _; rw [hy]; rfl
  clear hy
  have T67 : (tcells t)[67]? = some (.slice t.sa 1 t.sc) := by rw [tcells_get, hn]
  clear hn
  generalize t.sa = sa at *
  generalize t.sc = sc at *
  go_enter Tryz.func11, Tryz.ntmps11
  go_wp2
  go_quiet (fail)
  have HB := below_drewN (ba w (.cells (tcells t).toArray 45)) nq
  go_wp2
  go_ret
  exact ⟨rfl, HB⟩
set_option maxHeartbeats 8000000 in
theorem rck_b8_2 (t : Tl) (w : World) (hy : t.ty = 8) (hn : t.sn = 2) :
    Calls Tryz.prog 11 #[.agg (tcells t).toArray] w fun e w' => e = .returned (.int .i64 2) ∧ Below w.heap.size w w' := by
  have T0 : (tcells t)[0]? = some (.int .u8 8) := by show some (Value.int .u8 (t.ty : Int)) = _; rw [hy]; rfl
  clear hy
  have T67 : (tcells t)[67]? = some (.slice t.sa 2 t.sc) := by rw [tcells_get, hn]
  clear hn
  generalize t.sa = sa at *
  generalize t.sc = sc at *
  go_enter Tryz.func11, Tryz.ntmps11
  go_wp2
  go_quiet (fail)
  have HB := below_drewN (ba w (.cells (tcells t).toArray 45)) nq
  go_wp2
  go_ret
  exact ⟨rfl, HB⟩
set_option maxHeartbeats 8000000 in
theorem rck_b8_3 (t : Tl) (w : World) (hy : t.ty = 8) (hn : 2 < t.sn) :
    Calls Tryz.prog 11 #[.agg (tcells t).toArray] w fun e w' => e = .returned (.int .i64 2) ∧ Below w.heap.size w w' := by
  have T0 : (tcells t)[0]? = some (.int .u8 8) := by show some (Value.int .u8 (t.ty : Int)) = _; rw [hy]; rfl
  clear hy
  have T67 : (tcells t)[67]? = some (.slice t.sa t.sn t.sc) := tcells_get t
  have n0 : (0 : Int) < (t.sn : Int) := by omega
  have n00 : 0 < t.sn := by omega
  have n1 : ((t.sn : Int) == 1) = false := by simp; omega
  have n2 : ((t.sn : Int) == 2) = false := by simp; omega
  clear hn
  generalize t.sn = sn at *
  generalize t.sa = sa at *
  generalize t.sc = sc at *
  go_enter Tryz.func11, Tryz.ntmps11
  go_wp2
  go_quiet (fail)
  have HB := below_drewN (ba w (.cells (tcells t).toArray 45)) nq
  go_wp2
  go_ret
  exact ⟨rfl, HB⟩
set_option maxHeartbeats 8000000 in
theorem rck_b9_1 (t : Tl) (w : World) (hy : t.ty = 9) (hn : t.sn = 1) :
    Calls Tryz.prog 11 #[.agg (tcells t).toArray] w fun e w' => e = .returned (.int .i64 2) ∧ Below w.heap.size w w' := by
  have T0 : (tcells t)[0]? = some (.int .u8 9) := by show some (Value.int .u8 (t.ty : Int)) = _; rw [hy]; rfl
  clear hy
  have T67 : (tcells t)[67]? = some (.slice t.sa 1 t.sc) := by rw [tcells_get, hn]
  clear hn
  generalize t.sa = sa at *
  generalize t.sc = sc at *
  go_enter Tryz.func11, Tryz.ntmps11
  go_wp2
  go_quiet (fail)
  have HB := below_drewN (ba w (.cells (tcells t).toArray 45)) nq
  go_wp2
  go_ret
  exact ⟨rfl, HB⟩
set_option maxHeartbeats 8000000 in
theorem rck_b9_2 (t : Tl) (w : World) (hy : t.ty = 9) (hn : t.sn = 2) :
    Calls Tryz.prog 11 #[.agg (tcells t).toArray] w fun e w' => e = .returned (.int .i64 2) ∧ Below w.heap.size w w' := by
  have T0 : (tcells t)[0]? = some (.int .u8 9) := by show some (Value.int .u8 (t.ty : Int)) = _; rw [hy]; rfl
  clear hy
  have T67 : (tcells t)[67]? = some (.slice t.sa 2 t.sc) := by rw [tcells_get, hn]
  clear hn
  generalize t.sa = sa at *
  generalize t.sc = sc at *
  go_enter Tryz.func11, Tryz.ntmps11
  go_wp2
  go_quiet (fail)
  have HB := below_drewN (ba w (.cells (tcells t).toArray 45)) nq
  go_wp2
  go_ret
  exact ⟨rfl, HB⟩
set_option maxHeartbeats 8000000 in
theorem rck_b9_3 (t : Tl) (w : World) (hy : t.ty = 9) (hn : 2 < t.sn) :
    Calls Tryz.prog 11 #[.agg (tcells t).toArray] w fun e w' => e = .returned (.int .i64 2) ∧ Below w.heap.size w w' := by
  have T0 : (tcells t)[0]? = some (.int .u8 9) := by show some (Value.int .u8 (t.ty : Int)) = _; rw [hy]; rfl
  clear hy
  have T67 : (tcells t)[67]? = some (.slice t.sa t.sn t.sc) := tcells_get t
  have n0 : (0 : Int) < (t.sn : Int) := by omega
  have n00 : 0 < t.sn := by omega
  have n1 : ((t.sn : Int) == 1) = false := by simp; omega
  have n2 : ((t.sn : Int) == 2) = false := by simp; omega
  clear hn
  generalize t.sn = sn at *
  generalize t.sa = sa at *
  generalize t.sc = sc at *
  go_enter Tryz.func11, Tryz.ntmps11
  go_wp2
  go_quiet (fail)
  have HB := below_drewN (ba w (.cells (tcells t).toArray 45)) nq
  go_wp2
  go_ret
  exact ⟨rfl, HB⟩
set_option maxHeartbeats 8000000 in
theorem rck_b10_1 (t : Tl) (w : World) (hy : t.ty = 10) (hn : t.sn = 1) :
    Calls Tryz.prog 11 #[.agg (tcells t).toArray] w fun e w' => e = .returned (.int .i64 2) ∧ Below w.heap.size w w' := by
  have T0 : (tcells t)[0]? = some (.int .u8 10) := by show some (Value.int .u8 (t.ty : Int)) = _; rw [hy]; rfl
  clear hy
  have T67 : (tcells t)[67]? = some (.slice t.sa 1 t.sc) := by rw [tcells_get, hn]
  clear hn
  generalize t.sa = sa at *
  generalize t.sc = sc at *
  go_enter Tryz.func11, Tryz.ntmps11
  go_wp2
  go_quiet (fail)
  have HB := below_drewN (ba w (.cells (tcells t).toArray 45)) nq
  go_wp2
  go_ret
  exact ⟨rfl, HB⟩
set_option maxHeartbeats 8000000 in
theorem rck_b10_2 (t : Tl) (w : World) (hy : t.ty = 10) (hn : t.sn = 2) :
    Calls Tryz.prog 11 #[.agg (tcells t).toArray] w fun e w' => e = .returned (.int .i64 2) ∧ Below w.heap.size w w' := by
  have T0 : (tcells t)[0]? = some (.int .u8 10) := by show some (Value.int .u8 (t.ty : Int)) = _; rw [hy]; rfl
  clear hy
  have T67 : (tcells t)[67]? = some (.slice t.sa 2 t.sc) := by rw [tcells_get, hn]
  clear hn
  generalize t.sa = sa at *
  generalize t.sc = sc at *
  go_enter Tryz.func11, Tryz.ntmps11
  go_wp2
  go_quiet (fail)
  have HB := below_drewN (ba w (.cells (tcells t).toArray 45)) nq
  go_wp2
  go_ret
  exact ⟨rfl, HB⟩
set_option maxHeartbeats 8000000 in
theorem rck_b10_3 (t : Tl) (w : World) (hy : t.ty = 10) (hn : 2 < t.sn) :
    Calls Tryz.prog 11 #[.agg (tcells t).toArray] w fun e w' => e = .returned (.int .i64 2) ∧ Below w.heap.size w w' := by
  have T0 : (tcells t)[0]? = some (.int .u8 10) := by show some (Value.int .u8 (t.ty : Int)) = _; rw [hy]; rfl
  clear hy
  have T67 : (tcells t)[67]? = some (.slice t.sa t.sn t.sc) := tcells_get t
  have n0 : (0 : Int) < (t.sn : Int) := by omega
  have n00 : 0 < t.sn := by omega
  have n1 : ((t.sn : Int) == 1) = false := by simp; omega
  have n2 : ((t.sn : Int) == 2) = false := by simp; omega
  clear hn
  generalize t.sn = sn at *
  generalize t.sa = sa at *
  generalize t.sc = sc at *
  go_enter Tryz.func11, Tryz.ntmps11
  go_wp2
  go_quiet (fail)
  have HB := below_drewN (ba w (.cells (tcells t).toArray 45)) nq
  go_wp2
  go_ret
  exact ⟨rfl, HB⟩
set_option maxHeartbeats 8000000 in
theorem rck_g2_0 (t : Tl) (w : World) (b bz bf : Bool) (q : Int) (hq : q = 0 ∨ q = 21) (hbr : ∀ W, Calls Tryz.prog 29 #[.agg (tcells t).toArray] W fun e w' => e = .returned (.agg (tcells (bareT t)).toArray) ∧ Below W.heap.size W w') (hsm : ∀ W, Below w.heap.size w W → Calls Tryz.prog 28 #[.agg (tcells t).toArray, .agg (tcells (bareT t)).toArray] W fun e w' => e = .returned (.bool b) ∧ Below W.heap.size W w') (hsp : ∀ W, Calls Tryz.prog 30 #[.agg (icells t.id).toArray] W fun e w' => e = .returned (.tuple #[.bool bz, .bool bf]) ∧ Below W.heap.size W w') (hcq : ∀ W, Calls Tryz.prog 31 #[(Value.agg (qcells t.pr).toArray)] W (Gives W (.int .i64 q))) (hy : t.ty = 2) (hn : t.sn = 0) :
    Calls Tryz.prog 11 #[.agg (tcells t).toArray] w fun e w' => e = .returned (.int .i64 (rV t.key b bz bf q)) ∧ Below w.heap.size w w' := by
  have HY : Hid (t.ty = 2) := hy
  have HBR : Hid (∀ W, Calls Tryz.prog 29 #[.agg (tcells t).toArray] W fun e w' => e = .returned (.agg (tcells (bareT t)).toArray) ∧ Below W.heap.size W w') := hbr
  have HSM : Hid (∀ W, Below w.heap.size w W → Calls Tryz.prog 28 #[.agg (tcells t).toArray, .agg (tcells (bareT t)).toArray] W fun e w' => e = .returned (.bool b) ∧ Below W.heap.size W w') := hsm
  have HSP : Hid (∀ W, Calls Tryz.prog 30 #[.agg (icells t.id).toArray] W fun e w' => e = .returned (.tuple #[.bool bz, .bool bf]) ∧ Below W.heap.size W w') := hsp
  have HCQ : Hid (∀ W, Calls Tryz.prog 31 #[(Value.agg (qcells t.pr).toArray)] W (Gives W (.int .i64 q))) := hcq
  have HQ : Hid (q = 0 ∨ q = 21) := hq
  clear hbr hsm hsp hcq hq
  have HC0 : Hid (∀ W : World, Row W w.heap.size 45 (tcells t) → W.cell? ⟨w.heap.size, 0, none⟩ = some (.int .u8 2)) := fun W r => by rw [r.cell 0]; show some (Value.int .u8 (t.ty : Int)) = _; rw [HY.out]; rfl
  have HC5 : Hid (∀ W : World, Row W w.heap.size 45 (tcells t) → W.cell? ⟨w.heap.size, 5, none⟩ = some (.int .u16 (t.met : Int))) := fun W r => r.cell 5
  have HC6 : Hid (∀ W : World, Row W w.heap.size 45 (tcells t) → W.cell? ⟨w.heap.size, 6, none⟩ = some (.int .u8 (t.hops : Int))) := fun W r => r.cell 6
  have HC8 : Hid (∀ W : World, Row W w.heap.size 45 (tcells t) → W.cell? ⟨w.heap.size, 8, none⟩ = some (.bool t.all)) := fun W r => r.cell 8
  have T0 : (tcells t)[0]? = some (.int .u8 2) := by show some (Value.int .u8 (t.ty : Int)) = _; rw [hy]; rfl
  clear hy
  have T67 : (tcells t)[67]? = some (.slice t.sa 0 t.sc) := by rw [tcells_get, hn]
  clear hn
  generalize t.sa = sa at T67
  generalize t.sc = sc at T67
  go_enter Tryz.func11, Tryz.ntmps11
  go_wp2
  refine name_world (R := fun W => Code.wp _ _ _ _ W) (P := fun W => Below w.heap.size w W ∧ Row W w.heap.size 45 (tcells t)) _ ⟨ba _ _, Row.new _ _ _⟩ ?_
  rintro X ⟨hB, hR⟩
  have bX := bt hB (bd X)
  have rX := hR.below (bd X) hR.lt
  clear hB hR T0 T67
  refine wp_region_noPanic ?_
  refine wp_region_held_drew (S := fun W => Row W w.heap.size 45 (tcells t)) (by kernel_rfl) (rX) (fun hHeld => ?_)
  refine tA 0 ?_
  refine tA 1 ?_
  refine tA 2 ?_
  refine tA 3 ?_
  refine tA 4 ?_
  refine tA 5 ?_
  refine tN 6 ?_
  refine tN 7 ?_
  refine tN 8 ?_
  refine tN 9 ?_
  refine tN 10 ?_
  refine tN 11 ?_
  refine tN 12 ?_
  refine tN 13 ?_
  refine tA 14 ?_
  refine tA 15 ?_
  refine tN 16 ?_
  refine tN 17 ?_
  refine tN 18 ?_
  refine tN 19 ?_
  refine tN 20 ?_
  refine tN 21 ?_
  refine tN 22 ?_
  refine tN 23 ?_
  refine tA 24 ?_
  refine tA 25 ?_
  refine tA 26 ?_
  refine tL 27 rfl (yTm t (fun W hW => hW.range) (by rfl) rfl rfl) ?_
  refine tL 28 rfl (yTm t (fun W hW => hW.range) (by rfl) rfl rfl) ?_
  refine r1 29 fun K hK => ?_
  go_simp
  refine (HBR.out _).mono ?_
  rintro e w3 ⟨rfl, b3⟩
  have r3 := rX.below b3 rX.lt
  have bb3 := bt bX b3
  refine oK hK (by exact r3) fun hHeld => ?_
  clear hK K
  refine r1 30 fun K hK => ?_
  go_simp
  refine (HSM.out _ bb3).mono ?_
  rintro e w4 ⟨rfl, b4⟩
  have r4 := r3.below b4 r3.lt
  have bb4 := bt bb3 b4
  refine oK hK (by exact r4) fun hHeld => ?_
  clear hK K
  refine tA 31 ?_
  refine tA 32 ?_
  refine dN ?_
  refine NoPanic.normal ?_
  clear hHeld b3 b4 r3 bb3 rX bX
  have m0 := HC0.out _ r4
  cases b
  · skip
    have HRV : Hid (rV t.key false bz bf q = 2) := by show _ = _; have hy := HY.out; simp [rV, Tl.key, hy]
    go_wp2
    go_ret
    exact ⟨by rw [HRV.out]; rfl, bb4⟩
  · skip
    have HRV : Hid (rV t.key true bz bf q = 0) := by show _ = _; have hy := HY.out; simp [rV, Tl.key, hy]
    go_wp2_with (first
      | (go_at_call 30; refine (HSP.out _).mono ?_; rintro e w5 ⟨rfl, b5⟩; have r5 := r4.below b5 r4.lt; have y0 := HC0.out _ r5)
      | (refine ldI (.tmp 78) (by rfl) rfl w.heap.size 9 t.id rfl (by exact r4.rId2) ?_))
    go_ret
    exact ⟨by rw [HRV.out]; rfl, bt bb4 b5⟩
set_option maxHeartbeats 8000000 in
theorem rck_g3_0 (t : Tl) (w : World) (b bz bf : Bool) (q : Int) (hq : q = 0 ∨ q = 21) (hbr : ∀ W, Calls Tryz.prog 29 #[.agg (tcells t).toArray] W fun e w' => e = .returned (.agg (tcells (bareT t)).toArray) ∧ Below W.heap.size W w') (hsm : ∀ W, Below w.heap.size w W → Calls Tryz.prog 28 #[.agg (tcells t).toArray, .agg (tcells (bareT t)).toArray] W fun e w' => e = .returned (.bool b) ∧ Below W.heap.size W w') (hsp : ∀ W, Calls Tryz.prog 30 #[.agg (icells t.id).toArray] W fun e w' => e = .returned (.tuple #[.bool bz, .bool bf]) ∧ Below W.heap.size W w') (hcq : ∀ W, Calls Tryz.prog 31 #[(Value.agg (qcells t.pr).toArray)] W (Gives W (.int .i64 q))) (hy : t.ty = 3) (hn : t.sn = 0) :
    Calls Tryz.prog 11 #[.agg (tcells t).toArray] w fun e w' => e = .returned (.int .i64 (rV t.key b bz bf q)) ∧ Below w.heap.size w w' := by
  have HY : Hid (t.ty = 3) := hy
  have HBR : Hid (∀ W, Calls Tryz.prog 29 #[.agg (tcells t).toArray] W fun e w' => e = .returned (.agg (tcells (bareT t)).toArray) ∧ Below W.heap.size W w') := hbr
  have HSM : Hid (∀ W, Below w.heap.size w W → Calls Tryz.prog 28 #[.agg (tcells t).toArray, .agg (tcells (bareT t)).toArray] W fun e w' => e = .returned (.bool b) ∧ Below W.heap.size W w') := hsm
  have HSP : Hid (∀ W, Calls Tryz.prog 30 #[.agg (icells t.id).toArray] W fun e w' => e = .returned (.tuple #[.bool bz, .bool bf]) ∧ Below W.heap.size W w') := hsp
  have HCQ : Hid (∀ W, Calls Tryz.prog 31 #[(Value.agg (qcells t.pr).toArray)] W (Gives W (.int .i64 q))) := hcq
  have HQ : Hid (q = 0 ∨ q = 21) := hq
  clear hbr hsm hsp hcq hq
  have HC0 : Hid (∀ W : World, Row W w.heap.size 45 (tcells t) → W.cell? ⟨w.heap.size, 0, none⟩ = some (.int .u8 3)) := fun W r => by rw [r.cell 0]; show some (Value.int .u8 (t.ty : Int)) = _; rw [HY.out]; rfl
  have HC5 : Hid (∀ W : World, Row W w.heap.size 45 (tcells t) → W.cell? ⟨w.heap.size, 5, none⟩ = some (.int .u16 (t.met : Int))) := fun W r => r.cell 5
  have HC6 : Hid (∀ W : World, Row W w.heap.size 45 (tcells t) → W.cell? ⟨w.heap.size, 6, none⟩ = some (.int .u8 (t.hops : Int))) := fun W r => r.cell 6
  have HC8 : Hid (∀ W : World, Row W w.heap.size 45 (tcells t) → W.cell? ⟨w.heap.size, 8, none⟩ = some (.bool t.all)) := fun W r => r.cell 8
  have T0 : (tcells t)[0]? = some (.int .u8 3) := by show some (Value.int .u8 (t.ty : Int)) = _; rw [hy]; rfl
  clear hy
  have T67 : (tcells t)[67]? = some (.slice t.sa 0 t.sc) := by rw [tcells_get, hn]
  clear hn
  generalize t.sa = sa at T67
  generalize t.sc = sc at T67
  go_enter Tryz.func11, Tryz.ntmps11
  go_wp2
  refine name_world (R := fun W => Code.wp _ _ _ _ W) (P := fun W => Below w.heap.size w W ∧ Row W w.heap.size 45 (tcells t)) _ ⟨ba _ _, Row.new _ _ _⟩ ?_
  rintro X ⟨hB, hR⟩
  have bX := bt hB (bd X)
  have rX := hR.below (bd X) hR.lt
  clear hB hR T0 T67
  refine wp_region_noPanic ?_
  refine wp_region_held_drew (S := fun W => Row W w.heap.size 45 (tcells t)) (by kernel_rfl) (rX) (fun hHeld => ?_)
  refine tA 0 ?_
  refine tA 1 ?_
  refine tA 2 ?_
  refine tA 3 ?_
  refine tA 4 ?_
  refine tA 5 ?_
  refine tN 6 ?_
  refine tN 7 ?_
  refine tN 8 ?_
  refine tN 9 ?_
  refine tN 10 ?_
  refine tN 11 ?_
  refine tN 12 ?_
  refine tN 13 ?_
  refine tA 14 ?_
  refine tA 15 ?_
  refine tN 16 ?_
  refine tN 17 ?_
  refine tN 18 ?_
  refine tN 19 ?_
  refine tN 20 ?_
  refine tN 21 ?_
  refine tN 22 ?_
  refine tN 23 ?_
  refine tA 24 ?_
  refine tA 25 ?_
  refine tA 26 ?_
  refine tL 27 rfl (yTm t (fun W hW => hW.range) (by rfl) rfl rfl) ?_
  refine tL 28 rfl (yTm t (fun W hW => hW.range) (by rfl) rfl rfl) ?_
  refine r1 29 fun K hK => ?_
  go_simp
  refine (HBR.out _).mono ?_
  rintro e w3 ⟨rfl, b3⟩
  have r3 := rX.below b3 rX.lt
  have bb3 := bt bX b3
  refine oK hK (by exact r3) fun hHeld => ?_
  clear hK K
  refine r1 30 fun K hK => ?_
  go_simp
  refine (HSM.out _ bb3).mono ?_
  rintro e w4 ⟨rfl, b4⟩
  have r4 := r3.below b4 r3.lt
  have bb4 := bt bb3 b4
  refine oK hK (by exact r4) fun hHeld => ?_
  clear hK K
  refine tA 31 ?_
  refine tA 32 ?_
  refine dN ?_
  refine NoPanic.normal ?_
  clear hHeld b3 b4 r3 bb3 rX bX
  have m0 := HC0.out _ r4
  cases b
  · skip
    have HRV : Hid (rV t.key false bz bf q = 2) := by show _ = _; have hy := HY.out; simp [rV, Tl.key, hy]
    go_wp2
    go_ret
    exact ⟨by rw [HRV.out]; rfl, bb4⟩
  · skip
    have HRV : Hid (rV t.key true bz bf q = 0) := by show _ = _; have hy := HY.out; simp [rV, Tl.key, hy]
    go_wp2_with (first
      | (go_at_call 30; refine (HSP.out _).mono ?_; rintro e w5 ⟨rfl, b5⟩; have r5 := r4.below b5 r4.lt; have y0 := HC0.out _ r5)
      | (refine ldI (.tmp 78) (by rfl) rfl w.heap.size 9 t.id rfl (by exact r4.rId2) ?_))
    go_ret
    exact ⟨by rw [HRV.out]; rfl, bt bb4 b5⟩
set_option maxHeartbeats 8000000 in
theorem rck_g4_0 (t : Tl) (w : World) (b bz bf : Bool) (q : Int) (hq : q = 0 ∨ q = 21) (hbr : ∀ W, Calls Tryz.prog 29 #[.agg (tcells t).toArray] W fun e w' => e = .returned (.agg (tcells (bareT t)).toArray) ∧ Below W.heap.size W w') (hsm : ∀ W, Below w.heap.size w W → Calls Tryz.prog 28 #[.agg (tcells t).toArray, .agg (tcells (bareT t)).toArray] W fun e w' => e = .returned (.bool b) ∧ Below W.heap.size W w') (hsp : ∀ W, Calls Tryz.prog 30 #[.agg (icells t.id).toArray] W fun e w' => e = .returned (.tuple #[.bool bz, .bool bf]) ∧ Below W.heap.size W w') (hcq : ∀ W, Calls Tryz.prog 31 #[(Value.agg (qcells t.pr).toArray)] W (Gives W (.int .i64 q))) (hy : t.ty = 4) (hn : t.sn = 0) :
    Calls Tryz.prog 11 #[.agg (tcells t).toArray] w fun e w' => e = .returned (.int .i64 (rV t.key b bz bf q)) ∧ Below w.heap.size w w' := by
  have HY : Hid (t.ty = 4) := hy
  have HBR : Hid (∀ W, Calls Tryz.prog 29 #[.agg (tcells t).toArray] W fun e w' => e = .returned (.agg (tcells (bareT t)).toArray) ∧ Below W.heap.size W w') := hbr
  have HSM : Hid (∀ W, Below w.heap.size w W → Calls Tryz.prog 28 #[.agg (tcells t).toArray, .agg (tcells (bareT t)).toArray] W fun e w' => e = .returned (.bool b) ∧ Below W.heap.size W w') := hsm
  have HSP : Hid (∀ W, Calls Tryz.prog 30 #[.agg (icells t.id).toArray] W fun e w' => e = .returned (.tuple #[.bool bz, .bool bf]) ∧ Below W.heap.size W w') := hsp
  have HCQ : Hid (∀ W, Calls Tryz.prog 31 #[(Value.agg (qcells t.pr).toArray)] W (Gives W (.int .i64 q))) := hcq
  have HQ : Hid (q = 0 ∨ q = 21) := hq
  clear hbr hsm hsp hcq hq
  have HC0 : Hid (∀ W : World, Row W w.heap.size 45 (tcells t) → W.cell? ⟨w.heap.size, 0, none⟩ = some (.int .u8 4)) := fun W r => by rw [r.cell 0]; show some (Value.int .u8 (t.ty : Int)) = _; rw [HY.out]; rfl
  have HC5 : Hid (∀ W : World, Row W w.heap.size 45 (tcells t) → W.cell? ⟨w.heap.size, 5, none⟩ = some (.int .u16 (t.met : Int))) := fun W r => r.cell 5
  have HC6 : Hid (∀ W : World, Row W w.heap.size 45 (tcells t) → W.cell? ⟨w.heap.size, 6, none⟩ = some (.int .u8 (t.hops : Int))) := fun W r => r.cell 6
  have HC8 : Hid (∀ W : World, Row W w.heap.size 45 (tcells t) → W.cell? ⟨w.heap.size, 8, none⟩ = some (.bool t.all)) := fun W r => r.cell 8
  have T0 : (tcells t)[0]? = some (.int .u8 4) := by show some (Value.int .u8 (t.ty : Int)) = _; rw [hy]; rfl
  clear hy
  have T67 : (tcells t)[67]? = some (.slice t.sa 0 t.sc) := by rw [tcells_get, hn]
  clear hn
  generalize t.sa = sa at T67
  generalize t.sc = sc at T67
  go_enter Tryz.func11, Tryz.ntmps11
  go_wp2
  refine name_world (R := fun W => Code.wp _ _ _ _ W) (P := fun W => Below w.heap.size w W ∧ Row W w.heap.size 45 (tcells t)) _ ⟨ba _ _, Row.new _ _ _⟩ ?_
  rintro X ⟨hB, hR⟩
  have bX := bt hB (bd X)
  have rX := hR.below (bd X) hR.lt
  clear hB hR T0 T67
  refine wp_region_noPanic ?_
  refine wp_region_held_drew (S := fun W => Row W w.heap.size 45 (tcells t)) (by kernel_rfl) (rX) (fun hHeld => ?_)
  refine tA 0 ?_
  refine tA 1 ?_
  refine tA 2 ?_
  refine tA 3 ?_
  refine tA 4 ?_
  refine tA 5 ?_
  refine tN 6 ?_
  refine tN 7 ?_
  refine tN 8 ?_
  refine tN 9 ?_
  refine tN 10 ?_
  refine tN 11 ?_
  refine tN 12 ?_
  refine tN 13 ?_
  refine tA 14 ?_
  refine tA 15 ?_
  refine tN 16 ?_
  refine tN 17 ?_
  refine tN 18 ?_
  refine tN 19 ?_
  refine tN 20 ?_
  refine tN 21 ?_
  refine tN 22 ?_
  refine tN 23 ?_
  refine tA 24 ?_
  refine tA 25 ?_
  refine tA 26 ?_
  refine tL 27 rfl (yTm t (fun W hW => hW.range) (by rfl) rfl rfl) ?_
  refine tL 28 rfl (yTm t (fun W hW => hW.range) (by rfl) rfl rfl) ?_
  refine r1 29 fun K hK => ?_
  go_simp
  refine (HBR.out _).mono ?_
  rintro e w3 ⟨rfl, b3⟩
  have r3 := rX.below b3 rX.lt
  have bb3 := bt bX b3
  refine oK hK (by exact r3) fun hHeld => ?_
  clear hK K
  refine r1 30 fun K hK => ?_
  go_simp
  refine (HSM.out _ bb3).mono ?_
  rintro e w4 ⟨rfl, b4⟩
  have r4 := r3.below b4 r3.lt
  have bb4 := bt bb3 b4
  refine oK hK (by exact r4) fun hHeld => ?_
  clear hK K
  refine tA 31 ?_
  refine tA 32 ?_
  refine dN ?_
  refine NoPanic.normal ?_
  clear hHeld b3 b4 r3 bb3 rX bX
  have m0 := HC0.out _ r4
  cases b
  · skip
    have HRV : Hid (rV t.key false bz bf q = 2) := by show _ = _; have hy := HY.out; simp [rV, Tl.key, hy]
    go_wp2
    go_ret
    exact ⟨by rw [HRV.out]; rfl, bb4⟩
  · skip
    have HRV : Hid (rV t.key true bz bf q = 0) := by show _ = _; have hy := HY.out; simp [rV, Tl.key, hy]
    go_wp2_with (first
      | (go_at_call 30; refine (HSP.out _).mono ?_; rintro e w5 ⟨rfl, b5⟩; have r5 := r4.below b5 r4.lt; have y0 := HC0.out _ r5)
      | (refine ldI (.tmp 78) (by rfl) rfl w.heap.size 9 t.id rfl (by exact r4.rId2) ?_))
    go_ret
    exact ⟨by rw [HRV.out]; rfl, bt bb4 b5⟩
set_option maxHeartbeats 8000000 in
theorem rck_g4_1 (t : Tl) (w : World) (b bz bf : Bool) (q : Int) (hq : q = 0 ∨ q = 21) (hbr : ∀ W, Calls Tryz.prog 29 #[.agg (tcells t).toArray] W fun e w' => e = .returned (.agg (tcells (bareT t)).toArray) ∧ Below W.heap.size W w') (hsm : ∀ W, Below w.heap.size w W → Calls Tryz.prog 28 #[.agg (tcells t).toArray, .agg (tcells (bareT t)).toArray] W fun e w' => e = .returned (.bool b) ∧ Below W.heap.size W w') (hsp : ∀ W, Calls Tryz.prog 30 #[.agg (icells t.id).toArray] W fun e w' => e = .returned (.tuple #[.bool bz, .bool bf]) ∧ Below W.heap.size W w') (hcq : ∀ W, Calls Tryz.prog 31 #[(Value.agg (qcells t.pr).toArray)] W (Gives W (.int .i64 q))) (hy : t.ty = 4) (hn : t.sn = 1) :
    Calls Tryz.prog 11 #[.agg (tcells t).toArray] w fun e w' => e = .returned (.int .i64 (rV t.key b bz bf q)) ∧ Below w.heap.size w w' := by
  have HY : Hid (t.ty = 4) := hy
  have HBR : Hid (∀ W, Calls Tryz.prog 29 #[.agg (tcells t).toArray] W fun e w' => e = .returned (.agg (tcells (bareT t)).toArray) ∧ Below W.heap.size W w') := hbr
  have HSM : Hid (∀ W, Below w.heap.size w W → Calls Tryz.prog 28 #[.agg (tcells t).toArray, .agg (tcells (bareT t)).toArray] W fun e w' => e = .returned (.bool b) ∧ Below W.heap.size W w') := hsm
  have HSP : Hid (∀ W, Calls Tryz.prog 30 #[.agg (icells t.id).toArray] W fun e w' => e = .returned (.tuple #[.bool bz, .bool bf]) ∧ Below W.heap.size W w') := hsp
  have HCQ : Hid (∀ W, Calls Tryz.prog 31 #[(Value.agg (qcells t.pr).toArray)] W (Gives W (.int .i64 q))) := hcq
  have HQ : Hid (q = 0 ∨ q = 21) := hq
  clear hbr hsm hsp hcq hq
  have HC0 : Hid (∀ W : World, Row W w.heap.size 45 (tcells t) → W.cell? ⟨w.heap.size, 0, none⟩ = some (.int .u8 4)) := fun W r => by rw [r.cell 0]; show some (Value.int .u8 (t.ty : Int)) = _; rw [HY.out]; rfl
  have HC5 : Hid (∀ W : World, Row W w.heap.size 45 (tcells t) → W.cell? ⟨w.heap.size, 5, none⟩ = some (.int .u16 (t.met : Int))) := fun W r => r.cell 5
  have HC6 : Hid (∀ W : World, Row W w.heap.size 45 (tcells t) → W.cell? ⟨w.heap.size, 6, none⟩ = some (.int .u8 (t.hops : Int))) := fun W r => r.cell 6
  have HC8 : Hid (∀ W : World, Row W w.heap.size 45 (tcells t) → W.cell? ⟨w.heap.size, 8, none⟩ = some (.bool t.all)) := fun W r => r.cell 8
  have T0 : (tcells t)[0]? = some (.int .u8 4) := by show some (Value.int .u8 (t.ty : Int)) = _; rw [hy]; rfl
  clear hy
  have T67 : (tcells t)[67]? = some (.slice t.sa 1 t.sc) := by rw [tcells_get, hn]
  clear hn
  generalize t.sa = sa at T67
  generalize t.sc = sc at T67
  go_enter Tryz.func11, Tryz.ntmps11
  go_wp2
  refine name_world (R := fun W => Code.wp _ _ _ _ W) (P := fun W => Below w.heap.size w W ∧ Row W w.heap.size 45 (tcells t)) _ ⟨ba _ _, Row.new _ _ _⟩ ?_
  rintro X ⟨hB, hR⟩
  have bX := bt hB (bd X)
  have rX := hR.below (bd X) hR.lt
  clear hB hR T0 T67
  refine wp_region_noPanic ?_
  refine wp_region_held_drew (S := fun W => Row W w.heap.size 45 (tcells t)) (by kernel_rfl) (rX) (fun hHeld => ?_)
  refine tA 0 ?_
  refine tA 1 ?_
  refine tA 2 ?_
  refine tA 3 ?_
  refine tA 4 ?_
  refine tA 5 ?_
  refine tA 6 ?_
  refine tA 7 ?_
  refine tA 8 ?_
  refine tA 9 ?_
  refine tA 10 ?_ (hv := by intro w hSw; (try dsimp only at hSw); have hm := HC0.out _ hSw; go_simp <;> with_reducible rfl)
  refine tA 11 ?_
  refine tA 12 ?_
  refine tA 13 ?_
  refine tA 14 ?_
  refine tA 15 ?_
  refine tN 16 ?_
  refine tN 17 ?_
  refine tN 18 ?_
  refine tN 19 ?_
  refine tN 20 ?_
  refine tN 21 ?_
  refine tN 22 ?_
  refine tN 23 ?_
  refine tA 24 ?_
  refine tA 25 ?_
  refine tA 26 ?_
  refine tL 27 rfl (yTm t (fun W hW => hW.range) (by rfl) rfl rfl) ?_
  refine tL 28 rfl (yTm t (fun W hW => hW.range) (by rfl) rfl rfl) ?_
  refine r1 29 fun K hK => ?_
  go_simp
  refine (HBR.out _).mono ?_
  rintro e w3 ⟨rfl, b3⟩
  have r3 := rX.below b3 rX.lt
  have bb3 := bt bX b3
  refine oK hK (by exact r3) fun hHeld => ?_
  clear hK K
  refine r1 30 fun K hK => ?_
  go_simp
  refine (HSM.out _ bb3).mono ?_
  rintro e w4 ⟨rfl, b4⟩
  have r4 := r3.below b4 r3.lt
  have bb4 := bt bb3 b4
  refine oK hK (by exact r4) fun hHeld => ?_
  clear hK K
  refine tA 31 ?_
  refine tA 32 ?_
  refine dN ?_
  refine NoPanic.normal ?_
  clear hHeld b3 b4 r3 bb3 rX bX
  have m0 := HC0.out _ r4
  cases b
  · skip
    have HRV : Hid (rV t.key false bz bf q = 2) := by show _ = _; have hy := HY.out; simp [rV, Tl.key, hy]
    go_wp2
    go_ret
    exact ⟨by rw [HRV.out]; rfl, bb4⟩
  · skip
    have HRV : Hid (rV t.key true bz bf q = 0) := by show _ = _; have hy := HY.out; simp [rV, Tl.key, hy]
    go_wp2_with (first
      | (go_at_call 30; refine (HSP.out _).mono ?_; rintro e w5 ⟨rfl, b5⟩; have r5 := r4.below b5 r4.lt; have y0 := HC0.out _ r5)
      | (refine ldI (.tmp 78) (by rfl) rfl w.heap.size 9 t.id rfl (by exact r4.rId2) ?_))
    go_ret
    exact ⟨by rw [HRV.out]; rfl, bt bb4 b5⟩
set_option maxHeartbeats 8000000 in
theorem rck_g5_0 (t : Tl) (w : World) (b bz bf : Bool) (q : Int) (hq : q = 0 ∨ q = 21) (hbr : ∀ W, Calls Tryz.prog 29 #[.agg (tcells t).toArray] W fun e w' => e = .returned (.agg (tcells (bareT t)).toArray) ∧ Below W.heap.size W w') (hsm : ∀ W, Below w.heap.size w W → Calls Tryz.prog 28 #[.agg (tcells t).toArray, .agg (tcells (bareT t)).toArray] W fun e w' => e = .returned (.bool b) ∧ Below W.heap.size W w') (hsp : ∀ W, Calls Tryz.prog 30 #[.agg (icells t.id).toArray] W fun e w' => e = .returned (.tuple #[.bool bz, .bool bf]) ∧ Below W.heap.size W w') (hcq : ∀ W, Calls Tryz.prog 31 #[(Value.agg (qcells t.pr).toArray)] W (Gives W (.int .i64 q))) (hy : t.ty = 5) (hn : t.sn = 0) :
    Calls Tryz.prog 11 #[.agg (tcells t).toArray] w fun e w' => e = .returned (.int .i64 (rV t.key b bz bf q)) ∧ Below w.heap.size w w' := by
  have HY : Hid (t.ty = 5) := hy
  have HBR : Hid (∀ W, Calls Tryz.prog 29 #[.agg (tcells t).toArray] W fun e w' => e = .returned (.agg (tcells (bareT t)).toArray) ∧ Below W.heap.size W w') := hbr
  have HSM : Hid (∀ W, Below w.heap.size w W → Calls Tryz.prog 28 #[.agg (tcells t).toArray, .agg (tcells (bareT t)).toArray] W fun e w' => e = .returned (.bool b) ∧ Below W.heap.size W w') := hsm
  have HSP : Hid (∀ W, Calls Tryz.prog 30 #[.agg (icells t.id).toArray] W fun e w' => e = .returned (.tuple #[.bool bz, .bool bf]) ∧ Below W.heap.size W w') := hsp
  have HCQ : Hid (∀ W, Calls Tryz.prog 31 #[(Value.agg (qcells t.pr).toArray)] W (Gives W (.int .i64 q))) := hcq
  have HQ : Hid (q = 0 ∨ q = 21) := hq
  clear hbr hsm hsp hcq hq
  have HC0 : Hid (∀ W : World, Row W w.heap.size 45 (tcells t) → W.cell? ⟨w.heap.size, 0, none⟩ = some (.int .u8 5)) := fun W r => by rw [r.cell 0]; show some (Value.int .u8 (t.ty : Int)) = _; rw [HY.out]; rfl
  have HC5 : Hid (∀ W : World, Row W w.heap.size 45 (tcells t) → W.cell? ⟨w.heap.size, 5, none⟩ = some (.int .u16 (t.met : Int))) := fun W r => r.cell 5
  have HC6 : Hid (∀ W : World, Row W w.heap.size 45 (tcells t) → W.cell? ⟨w.heap.size, 6, none⟩ = some (.int .u8 (t.hops : Int))) := fun W r => r.cell 6
  have HC8 : Hid (∀ W : World, Row W w.heap.size 45 (tcells t) → W.cell? ⟨w.heap.size, 8, none⟩ = some (.bool t.all)) := fun W r => r.cell 8
  have T0 : (tcells t)[0]? = some (.int .u8 5) := by show some (Value.int .u8 (t.ty : Int)) = _; rw [hy]; rfl
  clear hy
  have T67 : (tcells t)[67]? = some (.slice t.sa 0 t.sc) := by rw [tcells_get, hn]
  clear hn
  generalize t.sa = sa at T67
  generalize t.sc = sc at T67
  go_enter Tryz.func11, Tryz.ntmps11
  go_wp2
  refine name_world (R := fun W => Code.wp _ _ _ _ W) (P := fun W => Below w.heap.size w W ∧ Row W w.heap.size 45 (tcells t)) _ ⟨ba _ _, Row.new _ _ _⟩ ?_
  rintro X ⟨hB, hR⟩
  have bX := bt hB (bd X)
  have rX := hR.below (bd X) hR.lt
  clear hB hR T0 T67
  refine wp_region_noPanic ?_
  refine wp_region_held_drew (S := fun W => Row W w.heap.size 45 (tcells t)) (by kernel_rfl) (rX) (fun hHeld => ?_)
  refine tA 0 ?_
  refine tA 1 ?_
  refine tA 2 ?_
  refine tA 3 ?_
  refine tA 4 ?_
  refine tA 5 ?_
  refine tN 6 ?_
  refine tN 7 ?_
  refine tN 8 ?_
  refine tN 9 ?_
  refine tN 10 ?_
  refine tN 11 ?_
  refine tN 12 ?_
  refine tN 13 ?_
  refine tA 14 ?_
  refine tA 15 ?_
  refine tN 16 ?_
  refine tN 17 ?_
  refine tN 18 ?_
  refine tN 19 ?_
  refine tN 20 ?_
  refine tN 21 ?_
  refine tN 22 ?_
  refine tN 23 ?_
  refine tA 24 ?_
  refine tA 25 ?_
  refine tA 26 ?_
  refine tL 27 rfl (yTm t (fun W hW => hW.range) (by rfl) rfl rfl) ?_
  refine tL 28 rfl (yTm t (fun W hW => hW.range) (by rfl) rfl rfl) ?_
  refine r1 29 fun K hK => ?_
  go_simp
  refine (HBR.out _).mono ?_
  rintro e w3 ⟨rfl, b3⟩
  have r3 := rX.below b3 rX.lt
  have bb3 := bt bX b3
  refine oK hK (by exact r3) fun hHeld => ?_
  clear hK K
  refine r1 30 fun K hK => ?_
  go_simp
  refine (HSM.out _ bb3).mono ?_
  rintro e w4 ⟨rfl, b4⟩
  have r4 := r3.below b4 r3.lt
  have bb4 := bt bb3 b4
  refine oK hK (by exact r4) fun hHeld => ?_
  clear hK K
  refine tA 31 ?_
  refine tA 32 ?_
  refine dN ?_
  refine NoPanic.normal ?_
  clear hHeld b3 b4 r3 bb3 rX bX
  have m0 := HC0.out _ r4
  cases b
  · skip
    have HRV : Hid (rV t.key false bz bf q = 2) := by show _ = _; have hy := HY.out; simp [rV, Tl.key, hy]
    go_wp2
    go_ret
    exact ⟨by rw [HRV.out]; rfl, bb4⟩
  · skip
    have HRV : Hid (rV t.key true bz bf q = 0) := by show _ = _; have hy := HY.out; simp [rV, Tl.key, hy]
    go_wp2_with (first
      | (go_at_call 30; refine (HSP.out _).mono ?_; rintro e w5 ⟨rfl, b5⟩; have r5 := r4.below b5 r4.lt; have y0 := HC0.out _ r5)
      | (refine ldI (.tmp 78) (by rfl) rfl w.heap.size 9 t.id rfl (by exact r4.rId2) ?_))
    go_ret
    exact ⟨by rw [HRV.out]; rfl, bt bb4 b5⟩
set_option maxHeartbeats 8000000 in
theorem rck_g5_2 (t : Tl) (w : World) (b bz bf : Bool) (q : Int) (hq : q = 0 ∨ q = 21) (hbr : ∀ W, Calls Tryz.prog 29 #[.agg (tcells t).toArray] W fun e w' => e = .returned (.agg (tcells (bareT t)).toArray) ∧ Below W.heap.size W w') (hsm : ∀ W, Below w.heap.size w W → Calls Tryz.prog 28 #[.agg (tcells t).toArray, .agg (tcells (bareT t)).toArray] W fun e w' => e = .returned (.bool b) ∧ Below W.heap.size W w') (hsp : ∀ W, Calls Tryz.prog 30 #[.agg (icells t.id).toArray] W fun e w' => e = .returned (.tuple #[.bool bz, .bool bf]) ∧ Below W.heap.size W w') (hcq : ∀ W, Calls Tryz.prog 31 #[(Value.agg (qcells t.pr).toArray)] W (Gives W (.int .i64 q))) (hy : t.ty = 5) (hn : t.sn = 2) :
    Calls Tryz.prog 11 #[.agg (tcells t).toArray] w fun e w' => e = .returned (.int .i64 (rV t.key b bz bf q)) ∧ Below w.heap.size w w' := by
  have HY : Hid (t.ty = 5) := hy
  have HBR : Hid (∀ W, Calls Tryz.prog 29 #[.agg (tcells t).toArray] W fun e w' => e = .returned (.agg (tcells (bareT t)).toArray) ∧ Below W.heap.size W w') := hbr
  have HSM : Hid (∀ W, Below w.heap.size w W → Calls Tryz.prog 28 #[.agg (tcells t).toArray, .agg (tcells (bareT t)).toArray] W fun e w' => e = .returned (.bool b) ∧ Below W.heap.size W w') := hsm
  have HSP : Hid (∀ W, Calls Tryz.prog 30 #[.agg (icells t.id).toArray] W fun e w' => e = .returned (.tuple #[.bool bz, .bool bf]) ∧ Below W.heap.size W w') := hsp
  have HCQ : Hid (∀ W, Calls Tryz.prog 31 #[(Value.agg (qcells t.pr).toArray)] W (Gives W (.int .i64 q))) := hcq
  have HQ : Hid (q = 0 ∨ q = 21) := hq
  clear hbr hsm hsp hcq hq
  have HC0 : Hid (∀ W : World, Row W w.heap.size 45 (tcells t) → W.cell? ⟨w.heap.size, 0, none⟩ = some (.int .u8 5)) := fun W r => by rw [r.cell 0]; show some (Value.int .u8 (t.ty : Int)) = _; rw [HY.out]; rfl
  have HC5 : Hid (∀ W : World, Row W w.heap.size 45 (tcells t) → W.cell? ⟨w.heap.size, 5, none⟩ = some (.int .u16 (t.met : Int))) := fun W r => r.cell 5
  have HC6 : Hid (∀ W : World, Row W w.heap.size 45 (tcells t) → W.cell? ⟨w.heap.size, 6, none⟩ = some (.int .u8 (t.hops : Int))) := fun W r => r.cell 6
  have HC8 : Hid (∀ W : World, Row W w.heap.size 45 (tcells t) → W.cell? ⟨w.heap.size, 8, none⟩ = some (.bool t.all)) := fun W r => r.cell 8
  have T0 : (tcells t)[0]? = some (.int .u8 5) := by show some (Value.int .u8 (t.ty : Int)) = _; rw [hy]; rfl
  clear hy
  have T67 : (tcells t)[67]? = some (.slice t.sa 2 t.sc) := by rw [tcells_get, hn]
  clear hn
  generalize t.sa = sa at T67
  generalize t.sc = sc at T67
  go_enter Tryz.func11, Tryz.ntmps11
  go_wp2
  refine name_world (R := fun W => Code.wp _ _ _ _ W) (P := fun W => Below w.heap.size w W ∧ Row W w.heap.size 45 (tcells t)) _ ⟨ba _ _, Row.new _ _ _⟩ ?_
  rintro X ⟨hB, hR⟩
  have bX := bt hB (bd X)
  have rX := hR.below (bd X) hR.lt
  clear hB hR T0 T67
  refine wp_region_noPanic ?_
  refine wp_region_held_drew (S := fun W => Row W w.heap.size 45 (tcells t)) (by kernel_rfl) (rX) (fun hHeld => ?_)
  refine tA 0 ?_
  refine tA 1 ?_
  refine tA 2 ?_
  refine tA 3 ?_
  refine tA 4 ?_
  refine tA 5 ?_
  refine tA 6 ?_
  refine tA 7 ?_
  refine tA 8 ?_
  refine tN 9 ?_
  refine tN 10 ?_
  refine tN 11 ?_
  refine tA 12 ?_
  refine tA 13 ?_
  refine tA 14 ?_
  refine tA 15 ?_
  refine tA 16 ?_
  refine tA 17 ?_
  refine tA 18 ?_
  refine tA 19 ?_
  refine tA 20 ?_ (hv := by intro w hSw; (try dsimp only at hSw); have hm := HC0.out _ hSw; go_simp <;> with_reducible rfl)
  refine tA 21 ?_
  refine tA 22 ?_
  refine tA 23 ?_
  refine tA 24 ?_
  refine tA 25 ?_
  refine tA 26 ?_
  refine tL 27 rfl (yTm t (fun W hW => hW.range) (by rfl) rfl rfl) ?_
  refine tL 28 rfl (yTm t (fun W hW => hW.range) (by rfl) rfl rfl) ?_
  refine r1 29 fun K hK => ?_
  go_simp
  refine (HBR.out _).mono ?_
  rintro e w3 ⟨rfl, b3⟩
  have r3 := rX.below b3 rX.lt
  have bb3 := bt bX b3
  refine oK hK (by exact r3) fun hHeld => ?_
  clear hK K
  refine r1 30 fun K hK => ?_
  go_simp
  refine (HSM.out _ bb3).mono ?_
  rintro e w4 ⟨rfl, b4⟩
  have r4 := r3.below b4 r3.lt
  have bb4 := bt bb3 b4
  refine oK hK (by exact r4) fun hHeld => ?_
  clear hK K
  refine tA 31 ?_
  refine tA 32 ?_
  refine dN ?_
  refine NoPanic.normal ?_
  clear hHeld b3 b4 r3 bb3 rX bX
  have m0 := HC0.out _ r4
  cases b
  · skip
    have HRV : Hid (rV t.key false bz bf q = 2) := by show _ = _; have hy := HY.out; simp [rV, Tl.key, hy]
    go_wp2
    go_ret
    exact ⟨by rw [HRV.out]; rfl, bb4⟩
  · skip
    have HRV : Hid (rV t.key true bz bf q = 0) := by show _ = _; have hy := HY.out; simp [rV, Tl.key, hy]
    go_wp2_with (first
      | (go_at_call 30; refine (HSP.out _).mono ?_; rintro e w5 ⟨rfl, b5⟩; have r5 := r4.below b5 r4.lt; have y0 := HC0.out _ r5)
      | (refine ldI (.tmp 78) (by rfl) rfl w.heap.size 9 t.id rfl (by exact r4.rId2) ?_))
    go_ret
    exact ⟨by rw [HRV.out]; rfl, bt bb4 b5⟩
set_option maxHeartbeats 8000000 in
theorem rck_g8_0 (t : Tl) (w : World) (b bz bf : Bool) (q : Int) (hq : q = 0 ∨ q = 21) (hbr : ∀ W, Calls Tryz.prog 29 #[.agg (tcells t).toArray] W fun e w' => e = .returned (.agg (tcells (bareT t)).toArray) ∧ Below W.heap.size W w') (hsm : ∀ W, Below w.heap.size w W → Calls Tryz.prog 28 #[.agg (tcells t).toArray, .agg (tcells (bareT t)).toArray] W fun e w' => e = .returned (.bool b) ∧ Below W.heap.size W w') (hsp : ∀ W, Calls Tryz.prog 30 #[.agg (icells t.id).toArray] W fun e w' => e = .returned (.tuple #[.bool bz, .bool bf]) ∧ Below W.heap.size W w') (hcq : ∀ W, Calls Tryz.prog 31 #[(Value.agg (qcells t.pr).toArray)] W (Gives W (.int .i64 q))) (hy : t.ty = 8) (hn : t.sn = 0) :
    Calls Tryz.prog 11 #[.agg (tcells t).toArray] w fun e w' => e = .returned (.int .i64 (rV t.key b bz bf q)) ∧ Below w.heap.size w w' := by
  have HY : Hid (t.ty = 8) := hy
  have HBR : Hid (∀ W, Calls Tryz.prog 29 #[.agg (tcells t).toArray] W fun e w' => e = .returned (.agg (tcells (bareT t)).toArray) ∧ Below W.heap.size W w') := hbr
  have HSM : Hid (∀ W, Below w.heap.size w W → Calls Tryz.prog 28 #[.agg (tcells t).toArray, .agg (tcells (bareT t)).toArray] W fun e w' => e = .returned (.bool b) ∧ Below W.heap.size W w') := hsm
  have HSP : Hid (∀ W, Calls Tryz.prog 30 #[.agg (icells t.id).toArray] W fun e w' => e = .returned (.tuple #[.bool bz, .bool bf]) ∧ Below W.heap.size W w') := hsp
  have HCQ : Hid (∀ W, Calls Tryz.prog 31 #[(Value.agg (qcells t.pr).toArray)] W (Gives W (.int .i64 q))) := hcq
  have HQ : Hid (q = 0 ∨ q = 21) := hq
  clear hbr hsm hsp hcq hq
  have HC0 : Hid (∀ W : World, Row W w.heap.size 45 (tcells t) → W.cell? ⟨w.heap.size, 0, none⟩ = some (.int .u8 8)) := fun W r => by rw [r.cell 0]; show some (Value.int .u8 (t.ty : Int)) = _; rw [HY.out]; rfl
  have HC5 : Hid (∀ W : World, Row W w.heap.size 45 (tcells t) → W.cell? ⟨w.heap.size, 5, none⟩ = some (.int .u16 (t.met : Int))) := fun W r => r.cell 5
  have HC6 : Hid (∀ W : World, Row W w.heap.size 45 (tcells t) → W.cell? ⟨w.heap.size, 6, none⟩ = some (.int .u8 (t.hops : Int))) := fun W r => r.cell 6
  have HC8 : Hid (∀ W : World, Row W w.heap.size 45 (tcells t) → W.cell? ⟨w.heap.size, 8, none⟩ = some (.bool t.all)) := fun W r => r.cell 8
  have T0 : (tcells t)[0]? = some (.int .u8 8) := by show some (Value.int .u8 (t.ty : Int)) = _; rw [hy]; rfl
  clear hy
  have T67 : (tcells t)[67]? = some (.slice t.sa 0 t.sc) := by rw [tcells_get, hn]
  clear hn
  generalize t.sa = sa at T67
  generalize t.sc = sc at T67
  go_enter Tryz.func11, Tryz.ntmps11
  go_wp2
  refine name_world (R := fun W => Code.wp _ _ _ _ W) (P := fun W => Below w.heap.size w W ∧ Row W w.heap.size 45 (tcells t)) _ ⟨ba _ _, Row.new _ _ _⟩ ?_
  rintro X ⟨hB, hR⟩
  have bX := bt hB (bd X)
  have rX := hR.below (bd X) hR.lt
  clear hB hR T0 T67
  refine wp_region_noPanic ?_
  refine wp_region_held_drew (S := fun W => Row W w.heap.size 45 (tcells t)) (by kernel_rfl) (rX) (fun hHeld => ?_)
  refine tA 0 ?_
  refine tA 1 ?_
  refine tA 2 ?_
  refine tA 3 ?_
  refine tA 4 ?_
  refine tA 5 ?_
  refine tN 6 ?_
  refine tN 7 ?_
  refine tN 8 ?_
  refine tN 9 ?_
  refine tN 10 ?_
  refine tN 11 ?_
  refine tN 12 ?_
  refine tN 13 ?_
  refine tA 14 ?_
  refine tA 15 ?_
  refine tN 16 ?_
  refine tN 17 ?_
  refine tN 18 ?_
  refine tN 19 ?_
  refine tN 20 ?_
  refine tN 21 ?_
  refine tN 22 ?_
  refine tN 23 ?_
  refine tA 24 ?_
  refine tA 25 ?_
  refine tA 26 ?_
  refine tL 27 rfl (yTm t (fun W hW => hW.range) (by rfl) rfl rfl) ?_
  refine tL 28 rfl (yTm t (fun W hW => hW.range) (by rfl) rfl rfl) ?_
  refine r1 29 fun K hK => ?_
  go_simp
  refine (HBR.out _).mono ?_
  rintro e w3 ⟨rfl, b3⟩
  have r3 := rX.below b3 rX.lt
  have bb3 := bt bX b3
  refine oK hK (by exact r3) fun hHeld => ?_
  clear hK K
  refine r1 30 fun K hK => ?_
  go_simp
  refine (HSM.out _ bb3).mono ?_
  rintro e w4 ⟨rfl, b4⟩
  have r4 := r3.below b4 r3.lt
  have bb4 := bt bb3 b4
  refine oK hK (by exact r4) fun hHeld => ?_
  clear hK K
  refine tA 31 ?_
  refine tA 32 ?_
  refine dN ?_
  refine NoPanic.normal ?_
  clear hHeld b3 b4 r3 bb3 rX bX
  have m0 := HC0.out _ r4
  cases b
  · skip
    have HRV : Hid (rV t.key false bz bf q = 2) := by show _ = _; have hy := HY.out; simp [rV, Tl.key, hy]
    go_wp2
    go_ret
    exact ⟨by rw [HRV.out]; rfl, bb4⟩
  · skip
    by_cases hm : t.met = 65535
    · skip
      have HME : Hid ((t.met : Int) = 65535) := by show _ = _; rw [hm]; rfl
      cases hal : t.all with
      | true =>
        have HAL : Hid (t.all = true) := hal
        have HRV : Hid (rV t.key true bz bf q = 0) := by show _ = _; have hy := HY.out; simp [rV, Tl.key, hy, HAL.out, hm]
        go_wp2_with (first
          | (go_at_call 30; refine (HSP.out _).mono ?_; rintro e w5 ⟨rfl, b5⟩; have r5 := r4.below b5 r4.lt; have y0 := HC0.out _ r5; have y8 : w5.cell? ⟨w.heap.size, 8, none⟩ = some (.bool true) := (by rw [← HAL.out]; exact HC8.out _ r5); have y5 : w5.cell? ⟨w.heap.size, 5, none⟩ = some (.int .u16 65535) := (by rw [← HME.out]; exact HC5.out _ r5))
          | (refine ldI (.tmp 78) (by rfl) rfl w.heap.size 9 t.id rfl (by exact r4.rId2) ?_))
        go_ret
        exact ⟨by rw [HRV.out]; rfl, bt bb4 b5⟩
      | false =>
        have HAL : Hid (t.all = false) := hal
        rcases HQ.out with rfl | rfl
        · skip
          have HRV : Hid (rV t.key true bz bf 0 = 0) := by show _ = _; have hy := HY.out; simp [rV, Tl.key, hy, HAL.out, hm]
          go_wp2_with (first
            | (go_at_call 31; have kk := r5; refine (HCQ.out _).mono ?_; rintro e w6 ⟨rfl, b6⟩)
            | (have kk := r5; refine ldQ (.tmp 143) (by rfl) rfl w.heap.size 33 t.pr rfl (by exact r5.rPr) ?_)
            | (go_at_call 30; refine (HSP.out _).mono ?_; rintro e w5 ⟨rfl, b5⟩; have r5 := r4.below b5 r4.lt; have y0 := HC0.out _ r5; have y8 : w5.cell? ⟨w.heap.size, 8, none⟩ = some (.bool false) := (by rw [← HAL.out]; exact HC8.out _ r5); have y5 : w5.cell? ⟨w.heap.size, 5, none⟩ = some (.int .u16 65535) := (by rw [← HME.out]; exact HC5.out _ r5))
            | (refine ldI (.tmp 78) (by rfl) rfl w.heap.size 9 t.id rfl (by exact r4.rId2) ?_))
          go_ret
          exact ⟨by rw [HRV.out]; rfl, bt (bt bb4 b5) b6⟩
        · skip
          have HRV : Hid (rV t.key true bz bf 21 = 21) := by show _ = _; have hy := HY.out; simp [rV, Tl.key, hy, HAL.out, hm]
          go_wp2_with (first
            | (go_at_call 31; have kk := r5; refine (HCQ.out _).mono ?_; rintro e w6 ⟨rfl, b6⟩)
            | (have kk := r5; refine ldQ (.tmp 143) (by rfl) rfl w.heap.size 33 t.pr rfl (by exact r5.rPr) ?_)
            | (go_at_call 30; refine (HSP.out _).mono ?_; rintro e w5 ⟨rfl, b5⟩; have r5 := r4.below b5 r4.lt; have y0 := HC0.out _ r5; have y8 : w5.cell? ⟨w.heap.size, 8, none⟩ = some (.bool false) := (by rw [← HAL.out]; exact HC8.out _ r5); have y5 : w5.cell? ⟨w.heap.size, 5, none⟩ = some (.int .u16 65535) := (by rw [← HME.out]; exact HC5.out _ r5))
            | (refine ldI (.tmp 78) (by rfl) rfl w.heap.size 9 t.id rfl (by exact r4.rId2) ?_))
          go_ret
          exact ⟨by rw [HRV.out]; rfl, bt (bt bb4 b5) b6⟩
    · skip
      have HME : Hid (((t.met : Int) != 65535) = true ∧ ((t.met : Int) == 65535) = false) := by show _ ∧ _; simp; omega
      cases hal : t.all with
      | true =>
        have HAL : Hid (t.all = true) := hal
        have HRV : Hid (rV t.key true bz bf q = 2) := by show _ = _; have hy := HY.out; simp [rV, Tl.key, hy, HAL.out, hm]
        go_wp2_with (first
          | (go_at_call 30; refine (HSP.out _).mono ?_; rintro e w5 ⟨rfl, b5⟩; have r5 := r4.below b5 r4.lt; have y0 := HC0.out _ r5; have y8 : w5.cell? ⟨w.heap.size, 8, none⟩ = some (.bool true) := (by rw [← HAL.out]; exact HC8.out _ r5); have y5 : w5.cell? ⟨w.heap.size, 5, none⟩ = some (.int .u16 (t.met : Int)) := HC5.out _ r5; obtain ⟨y5a, y5b⟩ := HME.out)
          | (refine ldI (.tmp 78) (by rfl) rfl w.heap.size 9 t.id rfl (by exact r4.rId2) ?_))
        go_ret
        exact ⟨by rw [HRV.out]; rfl, bt bb4 b5⟩
      | false =>
        have HAL : Hid (t.all = false) := hal
        cases bz
        · skip
          cases bf
          · skip
            rcases HQ.out with rfl | rfl
            · skip
              have HRV : Hid (rV t.key true false false 0 = 0) := by show _ = _; have hy := HY.out; simp [rV, Tl.key, hy, HAL.out, hm]
              go_wp2_with (first
                | (go_at_call 31; have kk := r5; refine (HCQ.out _).mono ?_; rintro e w6 ⟨rfl, b6⟩)
                | (have kk := r5; refine ldQ (.tmp 143) (by rfl) rfl w.heap.size 33 t.pr rfl (by exact r5.rPr) ?_)
                | (go_at_call 30; refine (HSP.out _).mono ?_; rintro e w5 ⟨rfl, b5⟩; have r5 := r4.below b5 r4.lt; have y0 := HC0.out _ r5; have y8 : w5.cell? ⟨w.heap.size, 8, none⟩ = some (.bool false) := (by rw [← HAL.out]; exact HC8.out _ r5); have y5 : w5.cell? ⟨w.heap.size, 5, none⟩ = some (.int .u16 (t.met : Int)) := HC5.out _ r5; obtain ⟨y5a, y5b⟩ := HME.out)
                | (refine ldI (.tmp 78) (by rfl) rfl w.heap.size 9 t.id rfl (by exact r4.rId2) ?_))
              go_ret
              exact ⟨by rw [HRV.out]; rfl, bt (bt bb4 b5) b6⟩
            · skip
              have HRV : Hid (rV t.key true false false 21 = 21) := by show _ = _; have hy := HY.out; simp [rV, Tl.key, hy, HAL.out, hm]
              go_wp2_with (first
                | (go_at_call 31; have kk := r5; refine (HCQ.out _).mono ?_; rintro e w6 ⟨rfl, b6⟩)
                | (have kk := r5; refine ldQ (.tmp 143) (by rfl) rfl w.heap.size 33 t.pr rfl (by exact r5.rPr) ?_)
                | (go_at_call 30; refine (HSP.out _).mono ?_; rintro e w5 ⟨rfl, b5⟩; have r5 := r4.below b5 r4.lt; have y0 := HC0.out _ r5; have y8 : w5.cell? ⟨w.heap.size, 8, none⟩ = some (.bool false) := (by rw [← HAL.out]; exact HC8.out _ r5); have y5 : w5.cell? ⟨w.heap.size, 5, none⟩ = some (.int .u16 (t.met : Int)) := HC5.out _ r5; obtain ⟨y5a, y5b⟩ := HME.out)
                | (refine ldI (.tmp 78) (by rfl) rfl w.heap.size 9 t.id rfl (by exact r4.rId2) ?_))
              go_ret
              exact ⟨by rw [HRV.out]; rfl, bt (bt bb4 b5) b6⟩
          · skip
            have HRV : Hid (rV t.key true false true q = 2) := by show _ = _; have hy := HY.out; simp [rV, Tl.key, hy, HAL.out, hm]
            go_wp2_with (first
              | (go_at_call 30; refine (HSP.out _).mono ?_; rintro e w5 ⟨rfl, b5⟩; have r5 := r4.below b5 r4.lt; have y0 := HC0.out _ r5; have y8 : w5.cell? ⟨w.heap.size, 8, none⟩ = some (.bool false) := (by rw [← HAL.out]; exact HC8.out _ r5); have y5 : w5.cell? ⟨w.heap.size, 5, none⟩ = some (.int .u16 (t.met : Int)) := HC5.out _ r5; obtain ⟨y5a, y5b⟩ := HME.out)
              | (refine ldI (.tmp 78) (by rfl) rfl w.heap.size 9 t.id rfl (by exact r4.rId2) ?_))
            go_ret
            exact ⟨by rw [HRV.out]; rfl, bt bb4 b5⟩
        · skip
          have HRV : Hid (rV t.key true true bf q = 2) := by show _ = _; have hy := HY.out; simp [rV, Tl.key, hy, HAL.out, hm]
          go_wp2_with (first
            | (go_at_call 30; refine (HSP.out _).mono ?_; rintro e w5 ⟨rfl, b5⟩; have r5 := r4.below b5 r4.lt; have y0 := HC0.out _ r5; have y8 : w5.cell? ⟨w.heap.size, 8, none⟩ = some (.bool false) := (by rw [← HAL.out]; exact HC8.out _ r5); have y5 : w5.cell? ⟨w.heap.size, 5, none⟩ = some (.int .u16 (t.met : Int)) := HC5.out _ r5; obtain ⟨y5a, y5b⟩ := HME.out)
            | (refine ldI (.tmp 78) (by rfl) rfl w.heap.size 9 t.id rfl (by exact r4.rId2) ?_))
          go_ret
          exact ⟨by rw [HRV.out]; rfl, bt bb4 b5⟩
set_option maxHeartbeats 8000000 in
theorem rck_g9_0 (t : Tl) (w : World) (b bz bf : Bool) (q : Int) (hq : q = 0 ∨ q = 21) (hbr : ∀ W, Calls Tryz.prog 29 #[.agg (tcells t).toArray] W fun e w' => e = .returned (.agg (tcells (bareT t)).toArray) ∧ Below W.heap.size W w') (hsm : ∀ W, Below w.heap.size w W → Calls Tryz.prog 28 #[.agg (tcells t).toArray, .agg (tcells (bareT t)).toArray] W fun e w' => e = .returned (.bool b) ∧ Below W.heap.size W w') (hsp : ∀ W, Calls Tryz.prog 30 #[.agg (icells t.id).toArray] W fun e w' => e = .returned (.tuple #[.bool bz, .bool bf]) ∧ Below W.heap.size W w') (hcq : ∀ W, Calls Tryz.prog 31 #[(Value.agg (qcells t.pr).toArray)] W (Gives W (.int .i64 q))) (hy : t.ty = 9) (hn : t.sn = 0) :
    Calls Tryz.prog 11 #[.agg (tcells t).toArray] w fun e w' => e = .returned (.int .i64 (rV t.key b bz bf q)) ∧ Below w.heap.size w w' := by
  have HY : Hid (t.ty = 9) := hy
  have HBR : Hid (∀ W, Calls Tryz.prog 29 #[.agg (tcells t).toArray] W fun e w' => e = .returned (.agg (tcells (bareT t)).toArray) ∧ Below W.heap.size W w') := hbr
  have HSM : Hid (∀ W, Below w.heap.size w W → Calls Tryz.prog 28 #[.agg (tcells t).toArray, .agg (tcells (bareT t)).toArray] W fun e w' => e = .returned (.bool b) ∧ Below W.heap.size W w') := hsm
  have HSP : Hid (∀ W, Calls Tryz.prog 30 #[.agg (icells t.id).toArray] W fun e w' => e = .returned (.tuple #[.bool bz, .bool bf]) ∧ Below W.heap.size W w') := hsp
  have HCQ : Hid (∀ W, Calls Tryz.prog 31 #[(Value.agg (qcells t.pr).toArray)] W (Gives W (.int .i64 q))) := hcq
  have HQ : Hid (q = 0 ∨ q = 21) := hq
  clear hbr hsm hsp hcq hq
  have HC0 : Hid (∀ W : World, Row W w.heap.size 45 (tcells t) → W.cell? ⟨w.heap.size, 0, none⟩ = some (.int .u8 9)) := fun W r => by rw [r.cell 0]; show some (Value.int .u8 (t.ty : Int)) = _; rw [HY.out]; rfl
  have HC5 : Hid (∀ W : World, Row W w.heap.size 45 (tcells t) → W.cell? ⟨w.heap.size, 5, none⟩ = some (.int .u16 (t.met : Int))) := fun W r => r.cell 5
  have HC6 : Hid (∀ W : World, Row W w.heap.size 45 (tcells t) → W.cell? ⟨w.heap.size, 6, none⟩ = some (.int .u8 (t.hops : Int))) := fun W r => r.cell 6
  have HC8 : Hid (∀ W : World, Row W w.heap.size 45 (tcells t) → W.cell? ⟨w.heap.size, 8, none⟩ = some (.bool t.all)) := fun W r => r.cell 8
  have T0 : (tcells t)[0]? = some (.int .u8 9) := by show some (Value.int .u8 (t.ty : Int)) = _; rw [hy]; rfl
  clear hy
  have T67 : (tcells t)[67]? = some (.slice t.sa 0 t.sc) := by rw [tcells_get, hn]
  clear hn
  generalize t.sa = sa at T67
  generalize t.sc = sc at T67
  go_enter Tryz.func11, Tryz.ntmps11
  go_wp2
  refine name_world (R := fun W => Code.wp _ _ _ _ W) (P := fun W => Below w.heap.size w W ∧ Row W w.heap.size 45 (tcells t)) _ ⟨ba _ _, Row.new _ _ _⟩ ?_
  rintro X ⟨hB, hR⟩
  have bX := bt hB (bd X)
  have rX := hR.below (bd X) hR.lt
  clear hB hR T0 T67
  refine wp_region_noPanic ?_
  refine wp_region_held_drew (S := fun W => Row W w.heap.size 45 (tcells t)) (by kernel_rfl) (rX) (fun hHeld => ?_)
  refine tA 0 ?_
  refine tA 1 ?_
  refine tA 2 ?_
  refine tA 3 ?_
  refine tA 4 ?_
  refine tA 5 ?_
  refine tN 6 ?_
  refine tN 7 ?_
  refine tN 8 ?_
  refine tN 9 ?_
  refine tN 10 ?_
  refine tN 11 ?_
  refine tN 12 ?_
  refine tN 13 ?_
  refine tA 14 ?_
  refine tA 15 ?_
  refine tN 16 ?_
  refine tN 17 ?_
  refine tN 18 ?_
  refine tN 19 ?_
  refine tN 20 ?_
  refine tN 21 ?_
  refine tN 22 ?_
  refine tN 23 ?_
  refine tA 24 ?_
  refine tA 25 ?_
  refine tA 26 ?_
  refine tL 27 rfl (yTm t (fun W hW => hW.range) (by rfl) rfl rfl) ?_
  refine tL 28 rfl (yTm t (fun W hW => hW.range) (by rfl) rfl rfl) ?_
  refine r1 29 fun K hK => ?_
  go_simp
  refine (HBR.out _).mono ?_
  rintro e w3 ⟨rfl, b3⟩
  have r3 := rX.below b3 rX.lt
  have bb3 := bt bX b3
  refine oK hK (by exact r3) fun hHeld => ?_
  clear hK K
  refine r1 30 fun K hK => ?_
  go_simp
  refine (HSM.out _ bb3).mono ?_
  rintro e w4 ⟨rfl, b4⟩
  have r4 := r3.below b4 r3.lt
  have bb4 := bt bb3 b4
  refine oK hK (by exact r4) fun hHeld => ?_
  clear hK K
  refine tA 31 ?_
  refine tA 32 ?_
  refine dN ?_
  refine NoPanic.normal ?_
  clear hHeld b3 b4 r3 bb3 rX bX
  have m0 := HC0.out _ r4
  cases b
  · skip
    have HRV : Hid (rV t.key false bz bf q = 2) := by show _ = _; have hy := HY.out; simp [rV, Tl.key, hy]
    go_wp2
    go_ret
    exact ⟨by rw [HRV.out]; rfl, bb4⟩
  · skip
    cases hal : t.all with
    | true =>
      have HAL : Hid (t.all = true) := hal
      have HRV : Hid (rV t.key true bz bf q = 0) := by show _ = _; have hy := HY.out; simp [rV, Tl.key, hy, HAL.out]
      go_wp2_with (first
        | (go_at_call 30; refine (HSP.out _).mono ?_; rintro e w5 ⟨rfl, b5⟩; have r5 := r4.below b5 r4.lt; have y0 := HC0.out _ r5; have y8 : w5.cell? ⟨w.heap.size, 8, none⟩ = some (.bool true) := (by rw [← HAL.out]; exact HC8.out _ r5))
        | (refine ldI (.tmp 78) (by rfl) rfl w.heap.size 9 t.id rfl (by exact r4.rId2) ?_))
      go_ret
      exact ⟨by rw [HRV.out]; rfl, bt bb4 b5⟩
    | false =>
      have HAL : Hid (t.all = false) := hal
      rcases HQ.out with rfl | rfl
      · skip
        have HRV : Hid (rV t.key true bz bf 0 = 0) := by show _ = _; have hy := HY.out; simp [rV, Tl.key, hy, HAL.out]
        go_wp2_with (first
          | (go_at_call 31; have kk := r5; refine (HCQ.out _).mono ?_; rintro e w6 ⟨rfl, b6⟩)
          | (have kk := r5; refine ldQ (.tmp 143) (by rfl) rfl w.heap.size 33 t.pr rfl (by exact r5.rPr) ?_)
          | (go_at_call 30; refine (HSP.out _).mono ?_; rintro e w5 ⟨rfl, b5⟩; have r5 := r4.below b5 r4.lt; have y0 := HC0.out _ r5; have y8 : w5.cell? ⟨w.heap.size, 8, none⟩ = some (.bool false) := (by rw [← HAL.out]; exact HC8.out _ r5))
          | (refine ldI (.tmp 78) (by rfl) rfl w.heap.size 9 t.id rfl (by exact r4.rId2) ?_))
        go_ret
        exact ⟨by rw [HRV.out]; rfl, bt (bt bb4 b5) b6⟩
      · skip
        have HRV : Hid (rV t.key true bz bf 21 = 21) := by show _ = _; have hy := HY.out; simp [rV, Tl.key, hy, HAL.out]
        go_wp2_with (first
          | (go_at_call 31; have kk := r5; refine (HCQ.out _).mono ?_; rintro e w6 ⟨rfl, b6⟩)
          | (have kk := r5; refine ldQ (.tmp 143) (by rfl) rfl w.heap.size 33 t.pr rfl (by exact r5.rPr) ?_)
          | (go_at_call 30; refine (HSP.out _).mono ?_; rintro e w5 ⟨rfl, b5⟩; have r5 := r4.below b5 r4.lt; have y0 := HC0.out _ r5; have y8 : w5.cell? ⟨w.heap.size, 8, none⟩ = some (.bool false) := (by rw [← HAL.out]; exact HC8.out _ r5))
          | (refine ldI (.tmp 78) (by rfl) rfl w.heap.size 9 t.id rfl (by exact r4.rId2) ?_))
        go_ret
        exact ⟨by rw [HRV.out]; rfl, bt (bt bb4 b5) b6⟩
set_option maxHeartbeats 8000000 in
theorem rck_g10_0 (t : Tl) (w : World) (b bz bf : Bool) (q : Int) (hq : q = 0 ∨ q = 21) (hbr : ∀ W, Calls Tryz.prog 29 #[.agg (tcells t).toArray] W fun e w' => e = .returned (.agg (tcells (bareT t)).toArray) ∧ Below W.heap.size W w') (hsm : ∀ W, Below w.heap.size w W → Calls Tryz.prog 28 #[.agg (tcells t).toArray, .agg (tcells (bareT t)).toArray] W fun e w' => e = .returned (.bool b) ∧ Below W.heap.size W w') (hsp : ∀ W, Calls Tryz.prog 30 #[.agg (icells t.id).toArray] W fun e w' => e = .returned (.tuple #[.bool bz, .bool bf]) ∧ Below W.heap.size W w') (hcq : ∀ W, Calls Tryz.prog 31 #[(Value.agg (qcells t.pr).toArray)] W (Gives W (.int .i64 q))) (hy : t.ty = 10) (hn : t.sn = 0) :
    Calls Tryz.prog 11 #[.agg (tcells t).toArray] w fun e w' => e = .returned (.int .i64 (rV t.key b bz bf q)) ∧ Below w.heap.size w w' := by
  have HY : Hid (t.ty = 10) := hy
  have HBR : Hid (∀ W, Calls Tryz.prog 29 #[.agg (tcells t).toArray] W fun e w' => e = .returned (.agg (tcells (bareT t)).toArray) ∧ Below W.heap.size W w') := hbr
  have HSM : Hid (∀ W, Below w.heap.size w W → Calls Tryz.prog 28 #[.agg (tcells t).toArray, .agg (tcells (bareT t)).toArray] W fun e w' => e = .returned (.bool b) ∧ Below W.heap.size W w') := hsm
  have HSP : Hid (∀ W, Calls Tryz.prog 30 #[.agg (icells t.id).toArray] W fun e w' => e = .returned (.tuple #[.bool bz, .bool bf]) ∧ Below W.heap.size W w') := hsp
  have HCQ : Hid (∀ W, Calls Tryz.prog 31 #[(Value.agg (qcells t.pr).toArray)] W (Gives W (.int .i64 q))) := hcq
  have HQ : Hid (q = 0 ∨ q = 21) := hq
  clear hbr hsm hsp hcq hq
  have HC0 : Hid (∀ W : World, Row W w.heap.size 45 (tcells t) → W.cell? ⟨w.heap.size, 0, none⟩ = some (.int .u8 10)) := fun W r => by rw [r.cell 0]; show some (Value.int .u8 (t.ty : Int)) = _; rw [HY.out]; rfl
  have HC5 : Hid (∀ W : World, Row W w.heap.size 45 (tcells t) → W.cell? ⟨w.heap.size, 5, none⟩ = some (.int .u16 (t.met : Int))) := fun W r => r.cell 5
  have HC6 : Hid (∀ W : World, Row W w.heap.size 45 (tcells t) → W.cell? ⟨w.heap.size, 6, none⟩ = some (.int .u8 (t.hops : Int))) := fun W r => r.cell 6
  have HC8 : Hid (∀ W : World, Row W w.heap.size 45 (tcells t) → W.cell? ⟨w.heap.size, 8, none⟩ = some (.bool t.all)) := fun W r => r.cell 8
  have T0 : (tcells t)[0]? = some (.int .u8 10) := by show some (Value.int .u8 (t.ty : Int)) = _; rw [hy]; rfl
  clear hy
  have T67 : (tcells t)[67]? = some (.slice t.sa 0 t.sc) := by rw [tcells_get, hn]
  clear hn
  generalize t.sa = sa at T67
  generalize t.sc = sc at T67
  go_enter Tryz.func11, Tryz.ntmps11
  go_wp2
  refine name_world (R := fun W => Code.wp _ _ _ _ W) (P := fun W => Below w.heap.size w W ∧ Row W w.heap.size 45 (tcells t)) _ ⟨ba _ _, Row.new _ _ _⟩ ?_
  rintro X ⟨hB, hR⟩
  have bX := bt hB (bd X)
  have rX := hR.below (bd X) hR.lt
  clear hB hR T0 T67
  refine wp_region_noPanic ?_
  refine wp_region_held_drew (S := fun W => Row W w.heap.size 45 (tcells t)) (by kernel_rfl) (rX) (fun hHeld => ?_)
  refine tA 0 ?_
  refine tA 1 ?_
  refine tA 2 ?_
  refine tA 3 ?_
  refine tA 4 ?_
  refine tA 5 ?_
  refine tN 6 ?_
  refine tN 7 ?_
  refine tN 8 ?_
  refine tN 9 ?_
  refine tN 10 ?_
  refine tN 11 ?_
  refine tN 12 ?_
  refine tN 13 ?_
  refine tA 14 ?_
  refine tA 15 ?_
  refine tN 16 ?_
  refine tN 17 ?_
  refine tN 18 ?_
  refine tN 19 ?_
  refine tN 20 ?_
  refine tN 21 ?_
  refine tN 22 ?_
  refine tN 23 ?_
  refine tA 24 ?_
  refine tA 25 ?_
  refine tA 26 ?_
  refine tL 27 rfl (yTm t (fun W hW => hW.range) (by rfl) rfl rfl) ?_
  refine tL 28 rfl (yTm t (fun W hW => hW.range) (by rfl) rfl rfl) ?_
  refine r1 29 fun K hK => ?_
  go_simp
  refine (HBR.out _).mono ?_
  rintro e w3 ⟨rfl, b3⟩
  have r3 := rX.below b3 rX.lt
  have bb3 := bt bX b3
  refine oK hK (by exact r3) fun hHeld => ?_
  clear hK K
  refine r1 30 fun K hK => ?_
  go_simp
  refine (HSM.out _ bb3).mono ?_
  rintro e w4 ⟨rfl, b4⟩
  have r4 := r3.below b4 r3.lt
  have bb4 := bt bb3 b4
  refine oK hK (by exact r4) fun hHeld => ?_
  clear hK K
  refine tA 31 ?_
  refine tA 32 ?_
  refine dN ?_
  refine NoPanic.normal ?_
  clear hHeld b3 b4 r3 bb3 rX bX
  have m0 := HC0.out _ r4
  cases b
  · skip
    have HRV : Hid (rV t.key false bz bf q = 2) := by show _ = _; have hy := HY.out; simp [rV, Tl.key, hy]
    go_wp2
    go_ret
    exact ⟨by rw [HRV.out]; rfl, bb4⟩
  · skip
    cases bz
    · skip
      by_cases hh : t.hops = 0
      · skip
        have HHO : Hid ((t.hops : Int) = 0) := by show _ = _; rw [hh]; rfl
        have HRV : Hid (rV t.key true false bf q = 2) := by show _ = _; have hy := HY.out; simp [rV, Tl.key, hy, hh]
        go_wp2_with (first
          | (go_at_call 30; refine (HSP.out _).mono ?_; rintro e w5 ⟨rfl, b5⟩; have r5 := r4.below b5 r4.lt; have y0 := HC0.out _ r5; have y6 : w5.cell? ⟨w.heap.size, 6, none⟩ = some (.int .u8 0) := (by rw [← HHO.out]; exact HC6.out _ r5))
          | (refine ldI (.tmp 78) (by rfl) rfl w.heap.size 9 t.id rfl (by exact r4.rId2) ?_))
        go_ret
        exact ⟨by rw [HRV.out]; rfl, bt bb4 b5⟩
      · skip
        have HHO : Hid (((t.hops : Int) == 0) = false) := by show _ = _; simp; omega
        rcases HQ.out with rfl | rfl
        · skip
          have HRV : Hid (rV t.key true false bf 0 = 0) := by show _ = _; have hy := HY.out; simp [rV, Tl.key, hy, hh]
          go_wp2_with (first
            | (go_at_call 31; have kk := r5; refine (HCQ.out _).mono ?_; rintro e w6 ⟨rfl, b6⟩)
            | (have kk := r5; refine ldQ (.tmp 143) (by rfl) rfl w.heap.size 33 t.pr rfl (by exact r5.rPr) ?_)
            | (go_at_call 30; refine (HSP.out _).mono ?_; rintro e w5 ⟨rfl, b5⟩; have r5 := r4.below b5 r4.lt; have y0 := HC0.out _ r5; have y6 : w5.cell? ⟨w.heap.size, 6, none⟩ = some (.int .u8 (t.hops : Int)) := HC6.out _ r5; have y6b := HHO.out)
            | (refine ldI (.tmp 78) (by rfl) rfl w.heap.size 9 t.id rfl (by exact r4.rId2) ?_))
          go_ret
          exact ⟨by rw [HRV.out]; rfl, bt (bt bb4 b5) b6⟩
        · skip
          have HRV : Hid (rV t.key true false bf 21 = 21) := by show _ = _; have hy := HY.out; simp [rV, Tl.key, hy, hh]
          go_wp2_with (first
            | (go_at_call 31; have kk := r5; refine (HCQ.out _).mono ?_; rintro e w6 ⟨rfl, b6⟩)
            | (have kk := r5; refine ldQ (.tmp 143) (by rfl) rfl w.heap.size 33 t.pr rfl (by exact r5.rPr) ?_)
            | (go_at_call 30; refine (HSP.out _).mono ?_; rintro e w5 ⟨rfl, b5⟩; have r5 := r4.below b5 r4.lt; have y0 := HC0.out _ r5; have y6 : w5.cell? ⟨w.heap.size, 6, none⟩ = some (.int .u8 (t.hops : Int)) := HC6.out _ r5; have y6b := HHO.out)
            | (refine ldI (.tmp 78) (by rfl) rfl w.heap.size 9 t.id rfl (by exact r4.rId2) ?_))
          go_ret
          exact ⟨by rw [HRV.out]; rfl, bt (bt bb4 b5) b6⟩
    · skip
      have HRV : Hid (rV t.key true true bf q = 2) := by show _ = _; have hy := HY.out; simp [rV, Tl.key, hy]
      go_wp2_with (first
        | (go_at_call 30; refine (HSP.out _).mono ?_; rintro e w5 ⟨rfl, b5⟩; have r5 := r4.below b5 r4.lt; have y0 := HC0.out _ r5)
        | (refine ldI (.tmp 78) (by rfl) rfl w.heap.size 9 t.id rfl (by exact r4.rId2) ?_))
      go_ret
      exact ⟨by rw [HRV.out]; rfl, bt bb4 b5⟩
theorem rcheck6_any (t : Tl) (w : World) (ht : TSrc w t) (hn : t.sn ≤ 100000) :
    Calls Tryz.prog 11 #[.agg (tcells t).toArray] w fun e w' => e = .returned (.int .i64 (if (namB t.ty && stOk t.key) = true then rV t.key (sameB t.key (bareT t).key) (decide (t.id.l = zeroI.l)) (decide (t.id.l = fullI.l)) (chkQ t.pr) else 2)) ∧ Below w.heap.size w w' := by
  have hst := TSrc.len ht
  have hb : TSrc w (bareT t) := by
    have h : (bareT t).sa = t.sa ∧ (bareT t).sn = t.sn ∧ (bareT t).sc = t.sc ∧ (bareT t).st = t.st := by
      unfold bareT
      repeat' split
      all_goals exact ⟨rfl, rfl, rfl, rfl⟩
    show Src w (bareT t).sa (bareT t).sn (bareT t).sc (wcells (bareT t).st)
    rw [h.1, h.2.1, h.2.2.1, h.2.2.2]
    exact ht
  have hsm : ∀ W, Below w.heap.size w W → Calls Tryz.prog 28 #[.agg (tcells t).toArray, .agg (tcells (bareT t)).toArray] W fun e w' => e = .returned (.bool (sameB t.key (bareT t).key)) ∧ Below W.heap.size W w' := fun W hW => rsame_any t (bareT t) W (Src.below ht hW (Src.lt ht)) (Src.below hb hW (Src.lt hb)) hn
  have hq : chkQ t.pr = 0 ∨ chkQ t.pr = 21 := by
    unfold chkQ
    rcases chk_02 t.pr.d with h | h <;> rcases chk_02 t.pr.s with h2 | h2 <;> rw [h, h2] <;> (split <;> first | (split <;> simp) | (simp [orI]) | skip)
  cases hy : namB t.ty
  · rw [Bool.false_and, if_neg (by simp)]
    exact rck_no t w hy
  · rw [Bool.true_and]
    have e1 : t.key.ty = t.ty := rfl
    have e2 : t.key.st = t.st := rfl
    rcases namB_cases hy with h | h | h | h | h | h | h
    · by_cases h0 : t.sn = 0
      · have ho : stOk t.key = true := by unfold stOk; rw [e1, e2, h]; exact decide_eq_true (by omega)
        rw [ho, if_pos rfl]
        exact rck_g2_0 t w _ _ _ _ hq (fun W => bare_any t W) hsm (fun W => special_any t.id W) (fun W => rcheckQ_any t.pr W) h h0
      by_cases h1 : t.sn = 1
      · have ho : stOk t.key = false := by unfold stOk; rw [e1, e2, h]; exact decide_eq_false (by omega)
        rw [ho, if_neg (by simp)]
        exact rck_b2_1 t w h h1
      by_cases h2 : t.sn = 2
      · have ho : stOk t.key = false := by unfold stOk; rw [e1, e2, h]; exact decide_eq_false (by omega)
        rw [ho, if_neg (by simp)]
        exact rck_b2_2 t w h h2
      have h3 : 2 < t.sn := by omega
      have ho : stOk t.key = false := by unfold stOk; rw [e1, e2, h]; exact decide_eq_false (by omega)
      rw [ho, if_neg (by simp)]
      exact rck_b2_3 t w h h3
    · by_cases h0 : t.sn = 0
      · have ho : stOk t.key = true := by unfold stOk; rw [e1, e2, h]; exact decide_eq_true (by omega)
        rw [ho, if_pos rfl]
        exact rck_g3_0 t w _ _ _ _ hq (fun W => bare_any t W) hsm (fun W => special_any t.id W) (fun W => rcheckQ_any t.pr W) h h0
      by_cases h1 : t.sn = 1
      · have ho : stOk t.key = false := by unfold stOk; rw [e1, e2, h]; exact decide_eq_false (by omega)
        rw [ho, if_neg (by simp)]
        exact rck_b3_1 t w h h1
      by_cases h2 : t.sn = 2
      · have ho : stOk t.key = false := by unfold stOk; rw [e1, e2, h]; exact decide_eq_false (by omega)
        rw [ho, if_neg (by simp)]
        exact rck_b3_2 t w h h2
      have h3 : 2 < t.sn := by omega
      have ho : stOk t.key = false := by unfold stOk; rw [e1, e2, h]; exact decide_eq_false (by omega)
      rw [ho, if_neg (by simp)]
      exact rck_b3_3 t w h h3
    · by_cases h0 : t.sn = 0
      · have ho : stOk t.key = true := by unfold stOk; rw [e1, e2, h]; exact decide_eq_true (by omega)
        rw [ho, if_pos rfl]
        exact rck_g4_0 t w _ _ _ _ hq (fun W => bare_any t W) hsm (fun W => special_any t.id W) (fun W => rcheckQ_any t.pr W) h h0
      by_cases h1 : t.sn = 1
      · have ho : stOk t.key = true := by unfold stOk; rw [e1, e2, h]; exact decide_eq_true (by omega)
        rw [ho, if_pos rfl]
        exact rck_g4_1 t w _ _ _ _ hq (fun W => bare_any t W) hsm (fun W => special_any t.id W) (fun W => rcheckQ_any t.pr W) h h1
      by_cases h2 : t.sn = 2
      · have ho : stOk t.key = false := by unfold stOk; rw [e1, e2, h]; exact decide_eq_false (by omega)
        rw [ho, if_neg (by simp)]
        exact rck_b4_2 t w h h2
      have h3 : 2 < t.sn := by omega
      have ho : stOk t.key = false := by unfold stOk; rw [e1, e2, h]; exact decide_eq_false (by omega)
      rw [ho, if_neg (by simp)]
      exact rck_b4_3 t w h h3
    · by_cases h0 : t.sn = 0
      · have ho : stOk t.key = true := by unfold stOk; rw [e1, e2, h]; exact decide_eq_true (by omega)
        rw [ho, if_pos rfl]
        exact rck_g5_0 t w _ _ _ _ hq (fun W => bare_any t W) hsm (fun W => special_any t.id W) (fun W => rcheckQ_any t.pr W) h h0
      by_cases h1 : t.sn = 1
      · have ho : stOk t.key = false := by unfold stOk; rw [e1, e2, h]; exact decide_eq_false (by omega)
        rw [ho, if_neg (by simp)]
        exact rck_b5_1 t w h h1
      by_cases h2 : t.sn = 2
      · have ho : stOk t.key = true := by unfold stOk; rw [e1, e2, h]; exact decide_eq_true (by omega)
        rw [ho, if_pos rfl]
        exact rck_g5_2 t w _ _ _ _ hq (fun W => bare_any t W) hsm (fun W => special_any t.id W) (fun W => rcheckQ_any t.pr W) h h2
      have h3 : 2 < t.sn := by omega
      have ho : stOk t.key = false := by unfold stOk; rw [e1, e2, h]; exact decide_eq_false (by omega)
      rw [ho, if_neg (by simp)]
      exact rck_b5_3 t w h h3
    · by_cases h0 : t.sn = 0
      · have ho : stOk t.key = true := by unfold stOk; rw [e1, e2, h]; exact decide_eq_true (by omega)
        rw [ho, if_pos rfl]
        exact rck_g8_0 t w _ _ _ _ hq (fun W => bare_any t W) hsm (fun W => special_any t.id W) (fun W => rcheckQ_any t.pr W) h h0
      by_cases h1 : t.sn = 1
      · have ho : stOk t.key = false := by unfold stOk; rw [e1, e2, h]; exact decide_eq_false (by omega)
        rw [ho, if_neg (by simp)]
        exact rck_b8_1 t w h h1
      by_cases h2 : t.sn = 2
      · have ho : stOk t.key = false := by unfold stOk; rw [e1, e2, h]; exact decide_eq_false (by omega)
        rw [ho, if_neg (by simp)]
        exact rck_b8_2 t w h h2
      have h3 : 2 < t.sn := by omega
      have ho : stOk t.key = false := by unfold stOk; rw [e1, e2, h]; exact decide_eq_false (by omega)
      rw [ho, if_neg (by simp)]
      exact rck_b8_3 t w h h3
    · by_cases h0 : t.sn = 0
      · have ho : stOk t.key = true := by unfold stOk; rw [e1, e2, h]; exact decide_eq_true (by omega)
        rw [ho, if_pos rfl]
        exact rck_g9_0 t w _ _ _ _ hq (fun W => bare_any t W) hsm (fun W => special_any t.id W) (fun W => rcheckQ_any t.pr W) h h0
      by_cases h1 : t.sn = 1
      · have ho : stOk t.key = false := by unfold stOk; rw [e1, e2, h]; exact decide_eq_false (by omega)
        rw [ho, if_neg (by simp)]
        exact rck_b9_1 t w h h1
      by_cases h2 : t.sn = 2
      · have ho : stOk t.key = false := by unfold stOk; rw [e1, e2, h]; exact decide_eq_false (by omega)
        rw [ho, if_neg (by simp)]
        exact rck_b9_2 t w h h2
      have h3 : 2 < t.sn := by omega
      have ho : stOk t.key = false := by unfold stOk; rw [e1, e2, h]; exact decide_eq_false (by omega)
      rw [ho, if_neg (by simp)]
      exact rck_b9_3 t w h h3
    · by_cases h0 : t.sn = 0
      · have ho : stOk t.key = true := by unfold stOk; rw [e1, e2, h]; exact decide_eq_true (by omega)
        rw [ho, if_pos rfl]
        exact rck_g10_0 t w _ _ _ _ hq (fun W => bare_any t W) hsm (fun W => special_any t.id W) (fun W => rcheckQ_any t.pr W) h h0
      by_cases h1 : t.sn = 1
      · have ho : stOk t.key = false := by unfold stOk; rw [e1, e2, h]; exact decide_eq_false (by omega)
        rw [ho, if_neg (by simp)]
        exact rck_b10_1 t w h h1
      by_cases h2 : t.sn = 2
      · have ho : stOk t.key = false := by unfold stOk; rw [e1, e2, h]; exact decide_eq_false (by omega)
        rw [ho, if_neg (by simp)]
        exact rck_b10_2 t w h h2
      have h3 : 2 < t.sn := by omega
      have ho : stOk t.key = false := by unfold stOk; rw [e1, e2, h]; exact decide_eq_false (by omega)
      rw [ho, if_neg (by simp)]
      exact rck_b10_3 t w h h3
end Go.Proofs.YtdibjgcokebfbaaGreat
