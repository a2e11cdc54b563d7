/-
  The contract of tlv.Join for every list of pieces within memory.
-/
import Derived.Test.YtgkonglkfjbmnaaRaw
namespace Go.Proofs.Ytgkonglkfjbmnaa
open Go.RowKit
set_option linter.unusedSimpArgs false

/-- The bytes of a piece, of pieces. -/
def encP (p : Pc) : List UInt8 := if p.t = 0 then [0] else p.t :: UInt8.ofNat p.n :: p.l
def joinL (ps : List Pc) : List UInt8 := ps.flatMap encP
theorem joinL_take (ps : List Pc) (j : Nat) (hj : j < ps.length) : joinL (ps.take (j + 1)) = joinL (ps.take j) ++ encP ps[j] := by
  unfold joinL
  rw [List.take_succ_eq_append_getElem hj, List.flatMap_append]; simp
theorem joinL_le (ps : List Pc) (j : Nat) : (joinL (ps.take j)).length ≤ (joinL ps).length := by
  have h : joinL ps = joinL (ps.take j) ++ joinL (ps.drop j) := by
    unfold joinL
    rw [← List.flatMap_append, List.take_append_drop]
  rw [h]
  simp
/-- What Join answers where all may be. -/
def Joined (w : World) (l : List UInt8) (e : Ending) (w' : World) : Prop :=
  ∃ a c, e = .returned (.tuple #[.slice a l.length c, .int .i64 0]) ∧ w'.ownsRow w.heap.size 5 1 (.slice a l.length c) l.length (bcells l) ∧ Below w.heap.size w w'

theorem join_err (a : Option Addr) (n c : Nat) (ps : List Pc) (w : World) (hs : Rws w a n ps) (hn : n ≤ 140737488355328) (he : chkE ps ≠ 0) :
    Calls Try.prog 15 #[.slice a n c] w fun e w' => e = .returned (.tuple #[.slice none 0 0, .int .i64 (chkE ps)]) ∧ Below w.heap.size w w' := by
  have hK := check_any a n c ps w hs hn
  generalize chkE ps = z at *
  have he' : (z == 0) = false := by simpa using he
  have HK : Hid (Calls Try.prog 32 #[.slice a n c] w fun e w' => e = .returned (.int .i64 z) ∧ Below w.heap.size w w') := hK
  clear hK he
  go_enter Try.func15, Try.ntmps15
  go_wp2_with (go_at_call 32; refine HK.out.mono ?_; rintro e w1 ⟨rfl, hb1⟩)
  go_ret2
  exact ⟨rfl, hb1⟩

theorem chk_short {ps : List Pc} (h : chkE ps = 0) {j : Nat} (hj : j < ps.length) : ps[j].n ≤ 255 := by
  by_cases h1 : 255 < ps[j].n
  · have := any_at longP ps j hj (by simp [longP, h1])
    unfold chkE at h
    rw [this] at h
    split at h <;> simp at h
  · omega
theorem own_ne {w : World} {B : Nat} {e : TypeId} {s : Nat} {v : Value} {n : Nat} {xs : List Value} (h : w.ownsRow B e s v n xs) {g : Nat} {t : TypeId} {cs : List Value} (hr : Row w g t cs) (ht : t ≠ e) : some g ≠ v.ownBlock := by
  intro hv
  rcases h.2 with ⟨rfl, _⟩ | ⟨g', cap, cur, rfl, _, hh, _⟩
  · simp [Value.ownBlock] at hv
  · cases hv
    unfold Row at hr
    rw [hh] at hr
    cases hr
    exact ht rfl
theorem row_ap {w : World} {B : Nat} {e : TypeId} {s : Nat} {v : Value} {n : Nat} {xs : List Value} (hown : w.ownsRow B e s v n xs) {g : Nat} {t : TypeId} {cs : List Value} (o : Obj) (hr : Row w g t cs) (ht : t ≠ e) {w1 : World} (hg : (w.alloc o).grownBy w1 v.ownBlock) : Row w1 g t cs := (hr.alloc o).grown hg (own_ne (hown.alloc o) (hr.alloc o) ht)
theorem ne51 : (51 : TypeId) ≠ 5 := by decide
/-- Behind an append: the row, and what lies elsewhere. -/
theorem ap_keep {w wr w1 : World} {v : Value} {n : Nat} {xs : List Value} {B : Nat} {u : Value} {k : Nat} (hown : wr.ownsRow w.heap.size 5 1 v n xs) (hB : wr.heap.size ≤ B) {W : World} (hc : W.cell? ⟨B, k, none⟩ = some u) (hg : W.grownBy w1 v.ownBlock) : w1.cell? ⟨B, k, none⟩ = some u :=
  hg.cell hc (fun e => by have := hown.lt _ e.symm; simp at this; omega)

theorem join_ok (a : Option Addr) (n c : Nat) (ps : List Pc) (w : World) (hs : Rws w a n ps) (hn : n ≤ 140737488355328) (he : chkE ps = 0) (hN : (joinL ps).length ≤ 140737488355328) :
    Calls Try.prog 15 #[.slice a n c] w (Joined w (joinL ps)) := by
  have HN : Hid (n = ps.length) := hs.len.symm
  have hK := check_any a n c ps w hs hn
  rw [he] at hK
  have HK : Hid (Calls Try.prog 32 #[.slice a n c] w fun e w' => e = .returned (.int .i64 0) ∧ Below w.heap.size w w') := hK
  clear hK
  go_enter Try.func15, Try.ntmps15
  go_wp2_with (go_at_call 32; refine HK.out.mono ?_; rintro e w1 ⟨rfl, hb1⟩)
  go_loopw [5, 15] (fun v i wr => ∃ j N : Nat, j ≤ n ∧ i = .int .i64 j ∧ Hid (N = (joinL (ps.take j)).length) ∧ wr.ownsRow w.heap.size 5 1 v N (bcells (joinL (ps.take j))) ∧ Below w.heap.size w wr) (fun _ i _ => n - (intOf i).toNat)
  case atStart => exact ⟨0, 0, Nat.zero_le _, rfl, (rfl : _ = _), World.ownsRow_nil _ _ _ _, hb1⟩
  case round =>
    clear hb1
    obtain ⟨j, N, hj, rfl, hNj, hown, hb⟩ := hrel
    by_cases hlt : j < n
    · have hjk : j < ps.length := by have := HN.out; omega
      obtain ⟨g, o, rfl, c0, c1⟩ := (hs.below hb).at hjk
      have hsp := hs.body ps[j] (List.getElem_mem hjk)
      have HT := joinL_take ps j hjk
      have HLE := joinL_le ps (j + 1)
      rw [HT, List.length_append, ← hNj.out] at HLE
      have ht := ps[j].t.toNat_lt
      have hbs := hb.size
      have e0 : ps[j].t = 0 ↔ ps[j].t.toNat = 0 := UInt8.toNat_inj.symm
      have e00 : UInt8.ofNat ps[j].t.toNat = ps[j].t := by simp
      have eE : encP ps[j] = if ps[j].t.toNat = 0 then [0] else UInt8.ofNat ps[j].t.toNat :: UInt8.ofNat ps[j].n :: ps[j].l := by
        unfold encP; rw [e00]; simp only [e0]
      rw [eE] at HT HLE
      have hP : ps[j].t.toNat ≠ 0 → ps[j].n ≤ 255 := fun _ => chk_short he hjk
      clear eE e0 e00
      generalize ps[j].t.toNat = pt at *
      generalize ps[j].a = pa at *
      generalize ps[j].n = pn at *
      generalize ps[j].c = pc at *
      generalize ps[j].l = pl at *
      have HP : Hid (pt ≠ 0 → pn ≤ 255) := hP
      by_cases h0 : pt = 0
      · subst h0
        rw [if_pos rfl] at HT HLE
        have HT' : Hid (joinL (ps.take (j + 1)) = joinL (ps.take j) ++ [0]) := HT
        have hN2 : N + 1 ≤ 140737488355328 := by simp at HLE; omega
        clear HT HLE
        go_wp2_with (at_builtin; refine append_src rfl (.tmp 19) (.tmp 22) rfl w.heap.size u5 N (bcells (joinL (ps.take j))) rfl ((hown.alloc _).alloc _) (some ⟨wr.heap.size + 1, 0, none⟩) 1 1 [.int .u8 0] rfl (by have := new_src (wr.alloc (.cells #[.int .u8 0, .slice pa pn pc] 51)) #[.int .u8 0]; simpa using this) (by intro u hu; simp at hu; subst hu; rfl) hN2 (by simp; omega) ?_; intro v1 w1 hown1 hg1 _; have k0 : w1.cell? ⟨wr.heap.size, 0, none⟩ = some (.int .u8 0) := ap_keep hown (Nat.le_refl _) (by simp) hg1)
        go_roundw
        case rel => exact ⟨j + 1, N + 1, by omega, by go_num, by show _ = _; rw [HT'.out, hNj.out]; simp, by rw [HT'.out, bcells_append]; exact hown1, ((hb.alloc hbs _).alloc (by simp; omega) _).grown hg1 (by simp; omega) (ownBlock_ge hown)⟩
        case measure => simp [intOf]; omega
      · rw [if_neg h0] at HT HLE
        have h0' : ((pt : Int) == 0) = false := by simpa using h0
        have HT' : Hid (joinL (ps.take (j + 1)) = joinL (ps.take j) ++ (UInt8.ofNat pt :: UInt8.ofNat pn :: pl)) := HT
        have ept : bcells [UInt8.ofNat pt] = [.int .u8 (pt : Int)] := by simp [bcells]; omega
        have hpn : pn ≤ 255 := HP.out h0
        have epn : bcells [UInt8.ofNat pn] = [.int .u8 (pn : Int)] := by simp [bcells]; omega
        have HE : Hid (bcells (UInt8.ofNat pt :: UInt8.ofNat pn :: pl) = [.int .u8 (pt : Int)] ++ [.int .u8 (pn : Int)] ++ bcells pl) := by show _ = _; rw [← ept, ← epn, ← bcells_append, ← bcells_append]; rfl
        have HLN : Hid (pn = pl.length) := hsp.blen
        have hN2 : N + 1 + 1 + pn ≤ 140737488355328 := by have := HLN.out; simp at HLE; omega
        have hN1 : N + 1 ≤ 140737488355328 := by omega
        have hN3 : N + 1 + 1 ≤ 140737488355328 := by omega
        clear HT HLE ept epn HP
        have r0 : Row (wr.alloc (.cells #[.int .u8 (pt : Int), .slice pa pn pc] 51)) wr.heap.size 51 [.int .u8 (pt : Int), .slice pa pn pc] := Row.new wr _ _
        have R0 : Hid (Row (wr.alloc (.cells #[.int .u8 (pt : Int), .slice pa pn pc] 51)) wr.heap.size 51 [.int .u8 (pt : Int), .slice pa pn pc]) := r0
        clear r0
        go_wp2_with (first
          | (at_builtin; have k := hg2; refine append_src rfl (.tmp 34) (.tmp 36) rfl w.heap.size v2 (N + 1 + 1) _ rfl hown2 pa pn pc (bcells pl) rfl (hsp.below bb2 hsp.lt) (bcells_one pl) hN2 s2 ?_; intro v3 w3 hown3 hg3 _)
          | (at_builtin; have k := hg1; refine append_src rfl (.tmp 27) (.tmp 32) rfl w.heap.size v1 (N + 1) _ rfl (hown1.alloc _) (some ⟨w1.heap.size, 0, none⟩) 1 1 [.int .u8 (pn : Int)] rfl (new_src w1 #[.int .u8 (pn : Int)]) (by intro u hu; simp at hu; subst hu; rfl) hN3 (by simp; omega) ?_; intro v2 w2 hown2 hg2 _; have bb2 := (bb1.alloc s1 _).grown hg2 (by simp; omega) (ownBlock_ge hown1); have s2 := bb2.size; have r2 : Row w2 wr.heap.size 51 [.int .u8 (pt : Int), .slice pa pn pc] := row_ap hown1 _ R1.out ne51 hg2; have q0 : w2.cell? ⟨wr.heap.size, 0, none⟩ = some (.int .u8 (pt : Int)) := r2.cell 0; have q1 : w2.cell? ⟨wr.heap.size, 1, none⟩ = some (.slice pa pn pc) := r2.cell 1; clear r2)
          | (at_builtin; refine append_src rfl (.tmp 19) (.tmp 22) rfl w.heap.size u5 N (bcells (joinL (ps.take j))) rfl ((hown.alloc _).alloc _) (some ⟨wr.heap.size + 1, 0, none⟩) 1 1 [.int .u8 (pt : Int)] rfl (by have := new_src (wr.alloc (.cells #[.int .u8 (pt : Int), .slice pa pn pc] 51)) #[.int .u8 (pt : Int)]; simpa using this) (by intro u hu; simp at hu; subst hu; rfl) hN1 (by simp; omega) ?_; intro v1 w1 hown1 hg1 _; have R1 : Hid (Row w1 wr.heap.size 51 [.int .u8 (pt : Int), .slice pa pn pc]) := row_ap (hown.alloc _) _ R0.out ne51 hg1; have k0 : w1.cell? ⟨wr.heap.size, 0, none⟩ = some (.int .u8 (pt : Int)) := R1.out.cell 0; have k1 : w1.cell? ⟨wr.heap.size, 1, none⟩ = some (.slice pa pn pc) := R1.out.cell 1; have bb1 := ((hb.alloc hbs _).alloc (by simp; omega) _).grown hg1 (by simp; omega) (ownBlock_ge hown); have s1 := bb1.size))
        go_roundw
        case rel => exact ⟨j + 1, N + 1 + 1 + pn, by omega, by go_num, by show _ = _; rw [HT'.out, hNj.out, HLN.out]; simp; omega, by rw [HT'.out, bcells_append, HE.out, ← List.append_assoc, ← List.append_assoc]; exact hown3, bb2.grown hg3 s2 (ownBlock_ge hown2)⟩
        case measure => simp [intOf]; omega
    · obtain rfl : n = j := by omega
      go_wp2
      go_ret2
      rw [List.take_of_length_le (by have := HN.out; omega)] at hown hNj
      obtain ⟨a1, c1, h1⟩ := own_shape hown
      have hNe := hNj.out
      subst hNe
      subst h1
      exact ⟨a1, c1, rfl, hown, hb⟩
end Go.Proofs.Ytgkonglkfjbmnaa
