/-
  The contract of tlv.Join for every list of pieces within memory.
-/
import Derived.Test.YtdibjgcokebfbaaGreatM02
namespace Go.Proofs.YtdibjgcokebfbaaGreat
open Go.RowKit
set_option linter.unusedSimpArgs false

/-- The bytes of a piece, of pieces. -/
def encP (p : Pc) : List UInt8 := if p.t = 0 then [0] else p.t :: UInt8.ofNat p.n :: p.l
def joinL (ps : List Pc) : List UInt8 := ps.flatMap encP
theorem joinL_take (ps : List Pc) (j : Nat) (hj : j < ps.length) : joinL (ps.take (j + 1)) = joinL (ps.take j) ++ encP ps[j] := by
  unfold joinL
  rw [List.take_succ_eq_append_getElem hj, List.flatMap_append]; simp
theorem joinL_le (ps : List Pc) (j : Nat) : (joinL (ps.take j)).length ≤ (joinL ps).length := by
  have h : joinL ps = joinL (ps.take j) ++ joinL (ps.drop j) := by
    unfold joinL
    rw [← List.flatMap_append, List.take_append_drop]
  rw [h]
  simp
/-- What Join answers where all may be. -/
def Joined (w : World) (l : List UInt8) (e : Ending) (w' : World) : Prop :=
  ∃ a c, e = .returned (.tuple #[.slice a l.length c, .int .i64 0]) ∧ w'.ownsRow w.heap.size 5 1 (.slice a l.length c) l.length (bcells l) ∧ Below w.heap.size w w'

theorem chk_short {ps : List Pc} (h : chkE ps = 0) {j : Nat} (hj : j < ps.length) : ps[j].n ≤ 255 := by
  by_cases h1 : 255 < ps[j].n
  · have := any_at longP ps j hj (by simp [longP, h1])
    unfold chkE at h
    rw [this] at h
    split at h <;> simp at h
  · omega
theorem own_ne {w : World} {B : Nat} {e : TypeId} {s : Nat} {v : Value} {n : Nat} {xs : List Value} (h : w.ownsRow B e s v n xs) {g : Nat} {t : TypeId} {cs : List Value} (hr : Row w g t cs) (ht : t ≠ e) : some g ≠ v.ownBlock := by
  intro hv
  rcases h.2 with ⟨rfl, _⟩ | ⟨g', cap, cur, rfl, _, hh, _⟩
  · simp [Value.ownBlock] at hv
  · cases hv
    unfold Row at hr
    rw [hh] at hr
    cases hr
    exact ht rfl
theorem row_ap {w : World} {B : Nat} {e : TypeId} {s : Nat} {v : Value} {n : Nat} {xs : List Value} (hown : w.ownsRow B e s v n xs) {g : Nat} {t : TypeId} {cs : List Value} (o : Obj) (hr : Row w g t cs) (ht : t ≠ e) {w1 : World} (hg : (w.alloc o).grownBy w1 v.ownBlock) : Row w1 g t cs := (hr.alloc o).grown hg (own_ne (hown.alloc o) (hr.alloc o) ht)
theorem ne51 : (94 : TypeId) ≠ 5 := by decide
/-- Behind an append: the row, and what lies elsewhere. -/
theorem ap_keep {w wr w1 : World} {v : Value} {n : Nat} {xs : List Value} {B : Nat} {u : Value} {k : Nat} (hown : wr.ownsRow w.heap.size 5 1 v n xs) (hB : wr.heap.size ≤ B) {W : World} (hc : W.cell? ⟨B, k, none⟩ = some u) (hg : W.grownBy w1 v.ownBlock) : w1.cell? ⟨B, k, none⟩ = some u :=
  hg.cell hc (fun e => by have := hown.lt _ e.symm; simp at this; omega)

theorem join_ok (a : Option Addr) (n c : Nat) (ps : List Pc) (w : World) (hs : Rws w a n ps) (hn : n ≤ 140737488355328) (he : chkE ps = 0) (hN : (joinL ps).length ≤ 140737488355328) :
    Calls Tryz.prog 50 #[.slice a n c] w (Joined w (joinL ps)) := by
  have HN : Hid (n = ps.length) := hs.len.symm
  have hK := check_any a n c ps w hs hn
  rw [he] at hK
  have HK : Hid (Calls Tryz.prog 88 #[.slice a n c] w fun e w' => e = .returned (.int .i64 0) ∧ Below w.heap.size w w') := hK
  clear hK
  go_enter Tryz.func50, Tryz.ntmps50
  go_wp2_with (go_at_call 88; refine HK.out.mono ?_; rintro e w1 ⟨rfl, hb1⟩)
  go_loopw [5, 15] (fun v i wr => ∃ j N : Nat, j ≤ n ∧ i = .int .i64 j ∧ Hid (N = (joinL (ps.take j)).length) ∧ wr.ownsRow w.heap.size 5 1 v N (bcells (joinL (ps.take j))) ∧ Below w.heap.size w wr) (fun _ i _ => n - (intOf i).toNat)
  case atStart => exact ⟨0, 0, Nat.zero_le _, rfl, (rfl : _ = _), World.ownsRow_nil _ _ _ _, hb1⟩
  case round =>
    clear hb1
    obtain ⟨j, N, hj, rfl, hNj, hown, hb⟩ := hrel
    by_cases hlt : j < n
    · have hjk : j < ps.length := by have := HN.out; omega
      obtain ⟨g, o, rfl, c0, c1⟩ := (hs.below hb).at hjk
      have hsp := hs.body ps[j] (List.getElem_mem hjk)
      have HT := joinL_take ps j hjk
      have HLE := joinL_le ps (j + 1)
      rw [HT, List.length_append, ← hNj.out] at HLE
      have ht := ps[j].t.toNat_lt
      have hbs := hb.size
      have e0 : ps[j].t = 0 ↔ ps[j].t.toNat = 0 := UInt8.toNat_inj.symm
      have e00 : UInt8.ofNat ps[j].t.toNat = ps[j].t := by simp
      have eE : encP ps[j] = if ps[j].t.toNat = 0 then [0] else UInt8.ofNat ps[j].t.toNat :: UInt8.ofNat ps[j].n :: ps[j].l := by
        unfold encP; rw [e00]; simp only [e0]
      rw [eE] at HT HLE
      have hP : ps[j].t.toNat ≠ 0 → ps[j].n ≤ 255 := fun _ => chk_short he hjk
      clear eE e0 e00
      generalize ps[j].t.toNat = pt at *
      generalize ps[j].a = pa at *
      generalize ps[j].n = pn at *
      generalize ps[j].c = pc at *
      generalize ps[j].l = pl at *
      have HP : Hid (pt ≠ 0 → pn ≤ 255) := hP
      by_cases h0 : pt = 0
      · subst h0
        rw [if_pos rfl] at HT HLE
        have HT' : Hid (joinL (ps.take (j + 1)) = joinL (ps.take j) ++ [0]) := HT
        have hN2 : N + 1 ≤ 140737488355328 := by simp at HLE; omega
        clear HT HLE
        go_wp2_with (at_builtin; refine append_src rfl (.tmp 19) (.tmp 22) rfl w.heap.size u5 N (bcells (joinL (ps.take j))) rfl ((hown.alloc _).alloc _) (some ⟨wr.heap.size + 1, 0, none⟩) 1 1 [.int .u8 0] rfl (by have := new_src (wr.alloc (.cells #[.int .u8 0, .slice pa pn pc] 94)) #[.int .u8 0]; simpa using this) (by intro u hu; simp at hu; subst hu; rfl) hN2 (by simp; omega) ?_; intro v1 w1 hown1 hg1 _; have k0 : w1.cell? ⟨wr.heap.size, 0, none⟩ = some (.int .u8 0) := ap_keep hown (Nat.le_refl _) (by simp) hg1)
        go_roundw
        case rel => exact ⟨j + 1, N + 1, by omega, by go_num, by show _ = _; rw [HT'.out, hNj.out]; simp, by rw [HT'.out, bcells_append]; exact hown1, ((hb.alloc hbs _).alloc (by simp; omega) _).grown hg1 (by simp; omega) (ownBlock_ge hown)⟩
        case measure => simp [intOf]; omega
      · rw [if_neg h0] at HT HLE
        have h0' : ((pt : Int) == 0) = false := by simpa using h0
        have HT' : Hid (joinL (ps.take (j + 1)) = joinL (ps.take j) ++ (UInt8.ofNat pt :: UInt8.ofNat pn :: pl)) := HT
        have ept : bcells [UInt8.ofNat pt] = [.int .u8 (pt : Int)] := by simp [bcells]; omega
        have hpn : pn ≤ 255 := HP.out h0
        have epn : bcells [UInt8.ofNat pn] = [.int .u8 (pn : Int)] := by simp [bcells]; omega
        have HE : Hid (bcells (UInt8.ofNat pt :: UInt8.ofNat pn :: pl) = [.int .u8 (pt : Int)] ++ [.int .u8 (pn : Int)] ++ bcells pl) := by show _ = _; rw [← ept, ← epn, ← bcells_append, ← bcells_append]; rfl
        have HLN : Hid (pn = pl.length) := hsp.blen
        have hN2 : N + 1 + 1 + pn ≤ 140737488355328 := by have := HLN.out; simp at HLE; omega
        have hN1 : N + 1 ≤ 140737488355328 := by omega
        have hN3 : N + 1 + 1 ≤ 140737488355328 := by omega
        clear HT HLE ept epn HP
        have r0 : Row (wr.alloc (.cells #[.int .u8 (pt : Int), .slice pa pn pc] 94)) wr.heap.size 94 [.int .u8 (pt : Int), .slice pa pn pc] := Row.new wr _ _
        have R0 : Hid (Row (wr.alloc (.cells #[.int .u8 (pt : Int), .slice pa pn pc] 94)) wr.heap.size 94 [.int .u8 (pt : Int), .slice pa pn pc]) := r0
        clear r0
        go_wp2_with (first
          | (at_builtin; have k := hg2; refine append_src rfl (.tmp 34) (.tmp 36) rfl w.heap.size v2 (N + 1 + 1) _ rfl hown2 pa pn pc (bcells pl) rfl (hsp.below bb2 hsp.lt) (bcells_one pl) hN2 s2 ?_; intro v3 w3 hown3 hg3 _)
          | (at_builtin; have k := hg1; refine append_src rfl (.tmp 27) (.tmp 32) rfl w.heap.size v1 (N + 1) _ rfl (hown1.alloc _) (some ⟨w1.heap.size, 0, none⟩) 1 1 [.int .u8 (pn : Int)] rfl (new_src w1 #[.int .u8 (pn : Int)]) (by intro u hu; simp at hu; subst hu; rfl) hN3 (by simp; omega) ?_; intro v2 w2 hown2 hg2 _; have bb2 := (bb1.alloc s1 _).grown hg2 (by simp; omega) (ownBlock_ge hown1); have s2 := bb2.size; have r2 : Row w2 wr.heap.size 94 [.int .u8 (pt : Int), .slice pa pn pc] := row_ap hown1 _ R1.out ne51 hg2; have q0 : w2.cell? ⟨wr.heap.size, 0, none⟩ = some (.int .u8 (pt : Int)) := r2.cell 0; have q1 : w2.cell? ⟨wr.heap.size, 1, none⟩ = some (.slice pa pn pc) := r2.cell 1; clear r2)
          | (at_builtin; refine append_src rfl (.tmp 19) (.tmp 22) rfl w.heap.size u5 N (bcells (joinL (ps.take j))) rfl ((hown.alloc _).alloc _) (some ⟨wr.heap.size + 1, 0, none⟩) 1 1 [.int .u8 (pt : Int)] rfl (by have := new_src (wr.alloc (.cells #[.int .u8 (pt : Int), .slice pa pn pc] 94)) #[.int .u8 (pt : Int)]; simpa using this) (by intro u hu; simp at hu; subst hu; rfl) hN1 (by simp; omega) ?_; intro v1 w1 hown1 hg1 _; have R1 : Hid (Row w1 wr.heap.size 94 [.int .u8 (pt : Int), .slice pa pn pc]) := row_ap (hown.alloc _) _ R0.out ne51 hg1; have k0 : w1.cell? ⟨wr.heap.size, 0, none⟩ = some (.int .u8 (pt : Int)) := R1.out.cell 0; have k1 : w1.cell? ⟨wr.heap.size, 1, none⟩ = some (.slice pa pn pc) := R1.out.cell 1; have bb1 := ((hb.alloc hbs _).alloc (by simp; omega) _).grown hg1 (by simp; omega) (ownBlock_ge hown); have s1 := bb1.size))
        go_roundw
        case rel => exact ⟨j + 1, N + 1 + 1 + pn, by omega, by go_num, by show _ = _; rw [HT'.out, hNj.out, HLN.out]; simp; omega, by rw [HT'.out, bcells_append, HE.out, ← List.append_assoc, ← List.append_assoc]; exact hown3, bb2.grown hg3 s2 (ownBlock_ge hown2)⟩
        case measure => simp [intOf]; omega
    · obtain rfl : n = j := by omega
      go_wp2
      go_ret2
      rw [List.take_of_length_le (by have := HN.out; omega)] at hown hNj
      obtain ⟨a1, c1, h1⟩ := own_shape hown
      have hNe := hNj.out
      subst hNe
      subst h1
      exact ⟨a1, c1, rfl, hown, hb⟩
end Go.Proofs.YtdibjgcokebfbaaGreat

namespace Go.Proofs.YtdibjgcokebfbaaGreat
open Go.RowKit
set_option linter.unusedSimpArgs false
variable {bv : Option Addr}

theorem u8_at {g : Nat} {l : List UInt8} {p : Nat} {w : World} (h : Rd w g bv l p 0) (hp : p < l.length) :
    Calls Tryz.prog 68 #[.pointer (some ⟨g, 0, none⟩)] w fun e w' => e = .returned (.int .u8 (l[p].toNat : Int)) ∧ Now w w' g bv l (p + 1) 0 := by
  have h := u8_any g _ p 0 w h
  obtain ⟨e1, e2⟩ := tk_there (l := l) (p := p) (k := 1) (by omega) (by omega)
  have e3 : (l.drop p).take 1 = [l[p]] := by rw [List.drop_eq_getElem_cons hp]; rfl
  rw [e1, e2, show (1 : Int).toNat = 1 from rfl, e3] at h
  simpa [nv] using h
theorem u8_end {g : Nat} {l : List UInt8} {p : Nat} {w : World} (h : Rd w g bv l p 0) (hp : ¬ p < l.length) :
    Calls Tryz.prog 68 #[.pointer (some ⟨g, 0, none⟩)] w fun e w' => e = .returned (.int .u8 0) ∧ Now w w' g bv l p 3 := by
  have h := u8_any g _ p 0 w h
  obtain ⟨e1, e2⟩ := tk_short (l := l) (p := p) (k := 1) (by omega)
  rw [e1, e2] at h
  simpa [nv] using h
/-- Reader.Bytes, its answer in memory of its own. -/
theorem bytes_own (g : Nat) (l : List UInt8) (p : Nat) (y n : Int) (w : World) (h : Rd w g bv l p y) :
    Calls Tryz.prog 72 #[.pointer (some ⟨g, 0, none⟩), .int .i64 n] w fun e w' => ∃ a c, e = .returned (.slice a (tkB l p y n).length c) ∧ w'.ownsRow w.heap.size 5 1 (.slice a (tkB l p y n).length c) (tkB l p y n).length (bcells (tkB l p y n)) ∧ Now w w' g bv l (p + (tkB l p y n).length) (tkE l p y n) := by
  have hb := h.big
  have hl := tkB_len l p y n h.le
  go_enter Tryz.func72, Tryz.ntmps72
  go_wp2_with (first
    | (go_at_call 107; refine (take_any g l p y n w h).mono ?_; rintro e w0 ⟨a0, c0, rfl, hs0, hn0⟩)
    | (go_at_call 105; refine (clone_any a0 _ c0 (tkB l p y n) w0 hs0 (by omega)).mono ?_; rintro e w1 ⟨a1, c1, rfl, hown, hb1⟩))
  go_ret
  exact ⟨a1, c1, rfl, own_le hown hn0.grown.size, ⟨hn0.rd.below hb1, grownBy_trans hn0.grown (grownBy_below _ hb1)⟩⟩
theorem bytes_ok {g : Nat} {l : List UInt8} {p k : Nat} {w : World} (h : Rd w g bv l p 0) (hk : p + k ≤ l.length) :
    Calls Tryz.prog 72 #[.pointer (some ⟨g, 0, none⟩), .int .i64 k] w fun e w' => ∃ a c, e = .returned (.slice a k c) ∧ w'.ownsRow w.heap.size 5 1 (.slice a k c) k (bcells ((l.drop p).take k)) ∧ Now w w' g bv l (p + k) 0 := by
  have h := bytes_own g l p 0 k w h
  obtain ⟨e1, e2⟩ := tk_there (l := l) (p := p) (k := k) (by omega) (by omega)
  have e3 : ((l.drop p).take k).length = k := by simp; omega
  simp only [Int.toNat_natCast] at e1
  rw [e1, e2, e3] at h
  exact h
theorem bytes_no {g : Nat} {l : List UInt8} {p : Nat} {y n : Int} {w : World} (h : Rd w g bv l p y) (hn : (y = 0 ∧ ((l.length - p : Nat) : Int) < n) ∨ y = 3) :
    Calls Tryz.prog 72 #[.pointer (some ⟨g, 0, none⟩), .int .i64 n] w fun e w' => ∃ a c, e = .returned (.slice a 0 c) ∧ Now w w' g bv l p 3 := by
  have h := bytes_own g l p y n w h
  obtain ⟨e1, e2⟩ : tkB l p y n = [] ∧ tkE l p y n = 3 := by
    rcases hn with ⟨rfl, h2⟩ | rfl
    · exact tk_short h2
    · exact tk_err (by decide)
  rw [e1, e2] at h
  refine h.mono ?_
  rintro e w' ⟨a, c, rfl, _, h2⟩
  exact ⟨a, c, rfl, h2⟩
theorem Now.below {w w' w2 : World} {g : Nat} {l : List UInt8} {p : Nat} {y : Int} (h : Now w w' g bv l p y) (hb : Below w'.heap.size w' w2) : Now w w2 g bv l p y := ⟨h.rd.below hb, grownBy_trans h.grown (grownBy_below _ hb)⟩
theorem Now.alloc {w w' : World} {g : Nat} {l : List UInt8} {p : Nat} {y : Int} (h : Now w w' g bv l p y) (o : Obj) : Now w (w'.alloc o) g bv l p y := h.below ((Below.refl _ _).alloc (Nat.le_refl _) _)

theorem Now.fresh {w w1 w2 : World} {g B : Nat} {l : List UInt8} {p p0 : Nat} {y y0 : Int} (h0 : Rd w g bv l p0 y0) (h : Now w w1 g bv l p y) (hg : w1.grownBy w2 (some B)) (hB : w.heap.size ≤ B) : Now w w2 g bv l p y := by
  refine ⟨h.rd.kept hg (fun e => ?_) (fun ad had hl e => ?_), ⟨hg.os.trans h.grown.os, hg.tape.trans h.grown.tape, hg.output.trans h.grown.output, Nat.le_trans h.grown.size hg.size, fun i hi hne => ?_⟩⟩
  · have := h0.lt; cases e; omega
  · have := h0.blt hl ad had; cases e; omega
  · exact (hg.block i (Nat.lt_of_lt_of_le hi h.grown.size) (fun e => by cases e; omega)).trans (h.grown.block i hi hne)
theorem row_now {w w' : World} {g B : Nat} {l : List UInt8} {p : Nat} {y : Int} {t : TypeId} {cs : List Value} (hr : Row w B t cs) (h : Now w w' g bv l p y) (hne : B ≠ g) : Row w' B t cs := hr.grown h.grown (fun e => hne (Option.some.inj e))

theorem own_keep {w w' : World} {B : Nat} {e : TypeId} {s : Nat} {v : Value} {n : Nat} {xs : List Value} {row : Option Nat} (h : w.ownsRow B e s v n xs) (hg : w.grownBy w' row) (hne : v.ownBlock ≠ row ∨ row = none) : w'.ownsRow B e s v n xs := by
  refine ⟨h.1, ?_⟩
  rcases h.2 with h | ⟨g, cap, cur, rfl, h2, h3, h4⟩
  · exact .inl h
  · refine .inr ⟨g, cap, cur, rfl, h2, (hg.block g (lt_of_block h3) ?_).trans h3, h4⟩
    rcases hne with hne | rfl
    · exact hne
    · simp
def NoB (l : List UInt8) (q : Nat) (y : Int) (k : Nat) : Prop := (y = 0 ∧ ((l.length - q : Nat) : Int) < (k : Int)) ∨ y = 3
/-- read, at a Pad1. -/
theorem read_pad {g : Nat} {l : List UInt8} {p : Nat} {w : World} (h : Rd w g bv l p 0) (hp : p < l.length) (h0 : l[p].toNat = 0) :
    Calls Tryz.prog 74 #[.pointer (some ⟨g, 0, none⟩)] w fun e w' => e = .returned (.agg #[.int .u8 0, .slice none 0 0]) ∧ Now w w' g bv l (p + 1) 0 := by
  have HU : Hid (∀ w', Rd w' g bv l p 0 → Calls Tryz.prog 68 #[.pointer (some ⟨g, 0, none⟩)] w' fun e w2 => e = .returned (.int .u8 0) ∧ Now w' w2 g bv l (p + 1) 0) := by
    intro w' h'
    have := u8_at h' hp
    rw [h0] at this
    exact this
  clear h0
  have hgl := h.lt
  have hR := Row.new w 94 [.int .u8 0, .slice none 0 0]
  go_enter Tryz.func74, Tryz.ntmps74
  go_wp2_with (first
    | (have k := hn1; refine stR (.tmp 2) (.tmp 16) (by rfl) rfl w.heap.size (.int .u8 0) (.slice none 0 0) (.int .u8 0) (.slice none 0 0) rfl rfl ((row_now hR hn1 (by omega)).alloc _) rfl rfl ?_; intro w3 hg3 hr3)
    | (go_at_call 68; refine (HU.out _ (h.now.alloc _).rd).mono ?_; rintro e w1 ⟨rfl, hn1⟩))
  exact bodyPost_ret (retC rfl _ _ 0 rfl (lvR hr3.range)) rfl ⟨rfl, Now.fresh h (((h.now.alloc _).trans hn1).alloc _) hg3 (Nat.le_refl _)⟩

/-- read, where a piece stands. -/
theorem read_yes {g : Nat} {l : List UInt8} {p : Nat} {w : World} (h : Rd w g bv l p 0) (hp : p + 1 < l.length) (h0 : l[p].toNat ≠ 0) (hk : p + 2 + l[p + 1].toNat ≤ l.length) :
    Calls Tryz.prog 74 #[.pointer (some ⟨g, 0, none⟩)] w fun e w' => ∃ a c, e = .returned (.agg #[.int .u8 (l[p].toNat : Int), .slice a l[p + 1].toNat c]) ∧ w'.ownsRow w.heap.size 5 1 (.slice a l[p + 1].toNat c) l[p + 1].toNat (bcells ((l.drop (p + 2)).take l[p + 1].toNat)) ∧ Now w w' g bv l (p + 2 + l[p + 1].toNat) 0 := by
  have HU1 : Hid (∀ w', Rd w' g bv l p 0 → Calls Tryz.prog 68 #[.pointer (some ⟨g, 0, none⟩)] w' fun e w2 => e = .returned (.int .u8 (l[p].toNat : Int)) ∧ Now w' w2 g bv l (p + 1) 0) := fun w' h' => u8_at h' (by omega)
  have HU2 : Hid (∀ w', Rd w' g bv l (p + 1) 0 → Calls Tryz.prog 68 #[.pointer (some ⟨g, 0, none⟩)] w' fun e w2 => e = .returned (.int .u8 (l[p + 1].toNat : Int)) ∧ Now w' w2 g bv l (p + 2) 0) := fun w' h' => u8_at h' hp
  have ht := l[p].toNat_lt
  have hm := l[p + 1].toNat_lt
  generalize l[p].toNat = t at *
  generalize l[p + 1].toNat = k at *
  have h0' : ((t : Int) == 0) = false := by simpa using h0
  have hgl := h.lt
  have hR := Row.new w 94 [.int .u8 0, .slice none 0 0]
  go_enter Tryz.func74, Tryz.ntmps74
  go_wp2_with (first
    | (have kk := hn5; refine stR (.tmp 2) (.tmp 16) (by rfl) rfl w.heap.size (.int .u8 (t : Int)) (.slice a5 k c5) (.int .u8 0) (.slice none 0 0) rfl rfl (hq5.grown (grownBy_setCell w5 w1.heap.size 1 _) (fun e => hne5 (Option.some.inj e))) rfl rfl ?_; intro w7 hg7 hr7)
    | (go_at_call 72; have kk := hn4; refine (bytes_ok (k := k) hn4.rd (by omega)).mono ?_; rintro e w5 ⟨a5, c5, rfl, hown5, hn5⟩; have hr5 := row_now hr4 hn5 hne4; have d0 : w5.cell? ⟨w1.heap.size, 0, none⟩ = some (.int .u8 (t : Int)) := hr5.cell 0; have d1 : w5.cell? ⟨w1.heap.size, 1, none⟩ = some (.slice none 0 0) := hr5.cell 1; have d2 := hr5.frozen 1; have hne6 : w.heap.size ≠ g := (by omega); have hne5 : w.heap.size ≠ w1.heap.size := (by have := hn1.grown.size; simp at this; omega); have hq5 : Row w5 w.heap.size 94 [.int .u8 0, .slice none 0 0] := row_now (row_now ((row_now hR hn1 hne6).alloc _) hn4 hne6) hn5 hne6)
    | (go_at_call 68; have kk := hn1; refine (HU2.out _ (hn1.alloc _).rd).mono ?_; rintro e w4 ⟨rfl, hn4⟩; have hne4 : w1.heap.size ≠ g := (by have := hn1.grown.size; simp at this; omega); have hr4 := row_now (Row.new w1 94 [.int .u8 (t : Int), .slice none 0 0]) hn4 hne4)
    | (go_at_call 68; refine (HU1.out _ (h.now.alloc _).rd).mono ?_; rintro e w1 ⟨rfl, hn1⟩))
  have z0 : Now w w5 g bv l (p + 2 + k) 0 := ((((h.now.alloc _).trans hn1).alloc _).trans hn4).trans hn5
  have z1 := Now.fresh h z0 (grownBy_setCell w5 w1.heap.size 1 (.slice a5 k c5)) (by have := hn1.grown.size; simp at this; omega)
  have z2 := Now.fresh h z1 hg7 (Nat.le_refl _)
  have hs4 : w.heap.size ≤ w4.heap.size := ((((h.now.alloc _).trans hn1).alloc _).trans hn4).grown.size
  have o1 := own_keep hown5 (grownBy_setCell w5 w1.heap.size 1 (.slice a5 k c5)) (.inl fun e => own_ne hown5 hr5 ne51 e.symm)
  have o2 := own_keep o1 hg7 (.inl fun e => own_ne o1 (hq5.grown (grownBy_setCell w5 w1.heap.size 1 _) (fun e => hne5 (Option.some.inj e))) ne51 e.symm)
  exact bodyPost_ret (retC rfl _ _ 0 rfl (lvR hr7.range)) rfl ⟨a5, c5, rfl, own_le o2 hs4, z2⟩

/-- read, where the bytes end within a piece. -/
theorem read_no {g : Nat} {l : List UInt8} {p : Nat} {w : World} (h : Rd w g bv l p 0) (hp : p < l.length) (h0 : l[p].toNat ≠ 0) (hk : ∀ hp1 : p + 1 < l.length, l.length < p + 2 + l[p + 1].toNat) :
    Calls Tryz.prog 74 #[.pointer (some ⟨g, 0, none⟩)] w fun e w' => ∃ t a c q, e = .returned (.agg #[.int .u8 t, .slice a 0 c]) ∧ Now w w' g bv l q 3 := by
  have HU1 : Hid (∀ w', Rd w' g bv l p 0 → Calls Tryz.prog 68 #[.pointer (some ⟨g, 0, none⟩)] w' fun e w2 => e = .returned (.int .u8 (l[p].toNat : Int)) ∧ Now w' w2 g bv l (p + 1) 0) := fun w' h' => u8_at h' (by omega)
  have HU2 : Hid (∀ w', Rd w' g bv l (p + 1) 0 → Calls Tryz.prog 68 #[.pointer (some ⟨g, 0, none⟩)] w' fun e w2 => ∃ (k q : Nat) (y : Int), k < 256 ∧ e = .returned (.int .u8 (k : Int)) ∧ Now w' w2 g bv l q y ∧ NoB l q y k) := by
    intro w' h'
    by_cases hp1 : p + 1 < l.length
    · refine (u8_at h' hp1).mono ?_
      rintro e w2 ⟨rfl, hn⟩
      exact ⟨_, _, _, l[p + 1].toNat_lt, rfl, hn, .inl ⟨rfl, by have := hk hp1; omega⟩⟩
    · refine (u8_end h' hp1).mono ?_
      rintro e w2 ⟨rfl, hn⟩
      exact ⟨0, _, _, by decide, rfl, hn, .inr rfl⟩
  have ht := l[p].toNat_lt
  clear hk
  generalize l[p].toNat = t at *
  have h0' : ((t : Int) == 0) = false := by simpa using h0
  have hgl := h.lt
  have hR := Row.new w 94 [.int .u8 0, .slice none 0 0]
  go_enter Tryz.func74, Tryz.ntmps74
  go_wp2_with (first
    | (have kk := hn5; refine stR (.tmp 2) (.tmp 16) (by rfl) rfl w.heap.size (.int .u8 (t : Int)) (.slice a5 0 c5) (.int .u8 0) (.slice none 0 0) rfl rfl (hq5.grown (grownBy_setCell w5 w1.heap.size 1 _) (fun e => hne5 (Option.some.inj e))) rfl rfl ?_; intro w7 hg7 hr7)
    | (go_at_call 72; have kk := hn4; refine (bytes_no hn4.rd hB).mono ?_; rintro e w5 ⟨a5, c5, rfl, hn5⟩; have hr5 := row_now hr4 hn5 hne4; have d0 : w5.cell? ⟨w1.heap.size, 0, none⟩ = some (.int .u8 (t : Int)) := hr5.cell 0; have d1 : w5.cell? ⟨w1.heap.size, 1, none⟩ = some (.slice none 0 0) := hr5.cell 1; have d2 := hr5.frozen 1; have hne6 : w.heap.size ≠ g := (by omega); have hne5 : w.heap.size ≠ w1.heap.size := (by have := hn1.grown.size; simp at this; omega); have hq5 : Row w5 w.heap.size 94 [.int .u8 0, .slice none 0 0] := row_now (row_now ((row_now hR hn1 hne6).alloc _) hn4 hne6) hn5 hne6)
    | (go_at_call 68; have kk := hn1; refine (HU2.out _ (hn1.alloc _).rd).mono ?_; rintro e w4 ⟨k, q, y, hk256, rfl, hn4, hB⟩; have hne4 : w1.heap.size ≠ g := (by have := hn1.grown.size; simp at this; omega); have hr4 := row_now (Row.new w1 94 [.int .u8 (t : Int), .slice none 0 0]) hn4 hne4)
    | (go_at_call 68; refine (HU1.out _ (h.now.alloc _).rd).mono ?_; rintro e w1 ⟨rfl, hn1⟩))
  have z0 : Now w w5 g bv l q 3 := ((((h.now.alloc _).trans hn1).alloc _).trans hn4).trans hn5
  have z1 := Now.fresh h z0 (grownBy_setCell w5 w1.heap.size 1 (.slice a5 0 c5)) (by have := hn1.grown.size; simp at this; omega)
  have z2 := Now.fresh h z1 hg7 (Nat.le_refl _)
  exact bodyPost_ret (retC rfl _ _ 0 rfl (lvR hr7.range)) rfl ⟨t, a5, c5, q, rfl, z2⟩
end Go.Proofs.YtdibjgcokebfbaaGreat

namespace Go.Proofs.YtdibjgcokebfbaaGreat
open Go.RowKit
set_option linter.unusedSimpArgs false
variable {bv : Option Addr}

/-- The pieces that bytes are, and the error. -/
def spl : Nat → List UInt8 → List (UInt8 × List UInt8) × Int
  | 0, _ => ([], 0)
  | _ + 1, [] => ([], 0)
  | f + 1, t :: r => if t.toNat = 0 then ((0, []) :: (spl f r).1, (spl f r).2) else match r with
    | [] => ([], 52)
    | k :: s => if s.length < k.toNat then ([], 52) else ((t, s.take k.toNat) :: (spl f (s.drop k.toNat)).1, (spl f (s.drop k.toNat)).2)
theorem spl_fuel : ∀ (f g : Nat) (l : List UInt8), l.length ≤ f → l.length ≤ g → spl f l = spl g l
  | 0, 0, _, _, _ => rfl
  | 0, g + 1, l, h, _ => by
    obtain rfl : l = [] := List.eq_nil_of_length_eq_zero (by omega)
    rfl
  | f + 1, 0, l, _, h => by
    obtain rfl : l = [] := List.eq_nil_of_length_eq_zero (by omega)
    rfl
  | f + 1, g + 1, [], _, _ => rfl
  | f + 1, g + 1, t :: r, h1, h2 => by
    simp only [List.length_cons] at h1 h2
    unfold spl
    rw [spl_fuel f g r (by omega) (by omega)]
    cases r with
    | nil => rfl
    | cons k s =>
      simp only [List.length_cons] at h1 h2
      simp only
      rw [spl_fuel f g (s.drop k.toNat) (by simp; omega) (by simp; omega)]
def splL (l : List UInt8) : List (UInt8 × List UInt8) × Int := spl l.length l
theorem spl_eq (f : Nat) (l : List UInt8) (h : l.length ≤ f) : spl f l = splL l := spl_fuel f l.length l h (Nat.le_refl _)
theorem splL_cons (t : UInt8) (r : List UInt8) : splL (t :: r) = if t.toNat = 0 then ((0, []) :: (splL r).1, (splL r).2) else match r with
    | [] => ([], 52)
    | k :: s => if s.length < k.toNat then ([], 52) else ((t, s.take k.toNat) :: (splL (s.drop k.toNat)).1, (splL (s.drop k.toNat)).2) := by
  show spl (r.length + 1) (t :: r) = _
  unfold spl
  rw [spl_eq r.length r (Nat.le_refl _)]
  cases r with
  | nil => rfl
  | cons k s =>
    simp only
    rw [spl_eq _ (s.drop k.toNat) (by simp; omega)]
/-- At a place of the bytes. -/
theorem spl_pad {l : List UInt8} {p : Nat} (hp : p < l.length) (h0 : l[p].toNat = 0) : splL (l.drop p) = ((0, []) :: (splL (l.drop (p + 1))).1, (splL (l.drop (p + 1))).2) := by
  rw [List.drop_eq_getElem_cons hp, splL_cons, if_pos h0]
theorem spl_yes {l : List UInt8} {p : Nat} (hp : p + 1 < l.length) (h0 : l[p].toNat ≠ 0) (hk : p + 2 + l[p + 1].toNat ≤ l.length) : splL (l.drop p) = ((l[p], (l.drop (p + 2)).take l[p + 1].toNat) :: (splL (l.drop (p + 2 + l[p + 1].toNat))).1, (splL (l.drop (p + 2 + l[p + 1].toNat))).2) := by
  rw [List.drop_eq_getElem_cons (show p < l.length by omega), splL_cons, if_neg h0, List.drop_eq_getElem_cons hp]
  simp only
  rw [if_neg (by simp; omega), List.drop_drop]
theorem spl_no {l : List UInt8} {p : Nat} (hp : p < l.length) (h0 : l[p].toNat ≠ 0) (hk : ∀ hp1 : p + 1 < l.length, l.length < p + 2 + l[p + 1].toNat) : splL (l.drop p) = ([], 52) := by
  rw [List.drop_eq_getElem_cons hp, splL_cons, if_neg h0]
  by_cases hp1 : p + 1 < l.length
  · rw [List.drop_eq_getElem_cons hp1]
    have := hk hp1
    simp only
    rw [if_pos (by simp; omega)]
  · rw [List.drop_of_length_le (by omega)]
theorem spl_end {l : List UInt8} {p : Nat} (hp : l.length ≤ p) : splL (l.drop p) = ([], 0) := by
  rw [List.drop_of_length_le hp]; rfl

/-- Types and bodies of pieces. -/
def keys (ps : List Pc) : List (UInt8 × List UInt8) := ps.map fun p => (p.t, p.l)
/-- Pieces of which each body lies in memory of the call's own. -/
def Bods (B : Nat) (w : World) (ps : List Pc) : Prop := ∀ p ∈ ps, w.ownsRow B 5 1 (.slice p.a p.n p.c) p.n (bcells p.l)
theorem own_apart {w : World} {B B' : Nat} {e e' : TypeId} {s s' : Nat} {v v' : Value} {n n' : Nat} {xs xs' : List Value} (h : w.ownsRow B e s v n xs) (h' : w.ownsRow B' e' s' v' n' xs') (hne : e ≠ e') : v.ownBlock ≠ v'.ownBlock ∨ v'.ownBlock = none := by
  rcases h'.2 with ⟨rfl, _⟩ | ⟨g', cap', cur', rfl, _, hh', _⟩
  · exact .inr rfl
  · left
    rcases h.2 with ⟨rfl, _⟩ | ⟨g, cap, cur, rfl, _, hh, _⟩
    · simp [Value.ownBlock]
    · intro e
      simp [Value.ownBlock] at e
      subst e
      rw [hh] at hh'
      cases hh'
      exact hne rfl
theorem Bods.keep {B : Nat} {w w' : World} {ps : List Pc} {row : Option Nat} (h : Bods B w ps) (hg : w.grownBy w' row) (hne : ∀ p ∈ ps, (Value.slice p.a p.n p.c).ownBlock ≠ row ∨ row = none) : Bods B w' ps := fun p hp => own_keep (h p hp) hg (hne p hp)
theorem Rd.own_ne {w : World} {g : Nat} {l : List UInt8} {p : Nat} {y : Int} {B : Nat} {e : TypeId} {s : Nat} {v : Value} {n : Nat} {xs : List Value} (h : Rd w g bv l p y) (ho : w.ownsRow B e s v n xs) (he : e ≠ 168) : v.ownBlock ≠ some g := by
  obtain ⟨c, hb, _⟩ := h.ex
  intro ev
  rcases ho.2 with ⟨rfl, _⟩ | ⟨g', cap, cur, rfl, _, hh, _⟩
  · simp [Value.ownBlock] at ev
  · cases ev
    rw [hb] at hh
    cases hh
    exact he rfl
theorem Bods.now {B : Nat} {w w' : World} {ps : List Pc} {g : Nat} {l : List UInt8} {p q : Nat} {y z : Int} (h : Bods B w ps) (h0 : Rd w g bv l p y) (hn : Now w w' g bv l q z) : Bods B w' ps := h.keep hn.grown (fun r hr => .inl (h0.own_ne (h r hr) (by decide)))
theorem own_now {B : Nat} {w w' : World} {g : Nat} {l : List UInt8} {p q : Nat} {y z : Int} {e : TypeId} {s : Nat} {v : Value} {n : Nat} {xs : List Value} (h : w.ownsRow B e s v n xs) (h0 : Rd w g bv l p y) (hn : Now w w' g bv l q z) (he : e ≠ 168) : w'.ownsRow B e s v n xs := own_keep h hn.grown (.inl (h0.own_ne h he))
theorem Bods.alloc {B : Nat} {w : World} {ps : List Pc} (h : Bods B w ps) (o : Obj) : Bods B (w.alloc o) ps := fun p hp => (h p hp).alloc o
/-- A slice of pieces in memory of the call's own. -/
theorem own_rws {B : Nat} {w : World} {a : Option Addr} {n c : Nat} {ps : List Pc} (h : w.ownsRow B 94 2 (.slice a n c) n (rcs ps)) (hb : Bods B w ps) : Rws w a n ps := by
  have hl := h.1
  rw [rcs_len] at hl
  refine ⟨by omega, fun hne => ?_, fun p hp => ?_⟩
  · rcases h.2 with ⟨_, h2⟩ | ⟨g, cap, cur, hv, _, hh, _, _, _, ht⟩
    · exact absurd (List.eq_nil_of_length_eq_zero (by omega)) hne
    · cases hv
      refine ⟨g, 0, rfl, lt_of_block hh, fun j p hp k u hu => ?_⟩
      have hk : k < 2 := by have := (List.getElem?_eq_some_iff.1 hu).1; simpa [rc] using this
      have := h.cells rfl (j * 2 + k) u (by rw [rcs_get ps j p hp k hk]; exact hu)
      rw [Addr.add_mid] at this
      rw [Nat.add_assoc]
      exact this
  · obtain ⟨a', c', e, hs, _⟩ := Src.ofOwn (hb p hp)
    cases e
    exact hs
end Go.Proofs.YtdibjgcokebfbaaGreat

namespace Go.Proofs.YtdibjgcokebfbaaGreat
open Go.RowKit
set_option linter.unusedSimpArgs false
variable {bv : Option Addr}

/-- Append a piece to a row of the call's own. -/
theorem append_raw {w : World} {ops : Array Oper} {rest : List Oper} {o : Oper} {a : Act} {Q : Exit → Act → World → Prop} (hgd : o.guard = none) (s x : Operand)
    (ho : o.op = .call { callee := .builtin .append, args := #[s, x], argTypes := #[71, 71] })
    (base : Nat) (v : Value) (n : Nat) (ps : List Pc) (hs : a.eval s = v) (hown : w.ownsRow base 94 2 v n (rcs ps))
    (g : Nat) (p : Pc) (c : Nat) (hx : a.eval x = .slice (some ⟨g, 0, none⟩) 1 c) (hr : Row w g 94 (rc p))
    (hbytes : n + 1 ≤ 4000000000000) (hbase : base ≤ w.heap.size)
    (h : ∀ v' w', w'.ownsRow base 94 2 v' (n + 1) (rcs (ps ++ [p])) → w.grownBy w' v.ownBlock → wpList Tryz.prog ops Q rest (a.put o.dst v') w') : wpList Tryz.prog ops Q (o :: rest) a w := by
  obtain ⟨i0, hi, hz0, hz1, hz2⟩ := info_parts infoR3
  refine wpList_append_own w hgd s x 71 ho base 94 i0 (.agg #[.int .u8 0, .slice none 0 0]) 2 32 Tryz.underlying71 hi hz0 hz1 hz2 rfl (by decide) v n (rcs ps) hs hown ⟨g, 0, none⟩ 1 c (rc p) hx (by simp [rc]) (fun j u hu => ?_) (by have := rcs_one [p]; simpa [rcs] using this) (by unfold maxLen; omega) (by omega) hbase (fun v' w' h1 h2 _ => h v' w' (by rw [rcs_append]; simpa [rcs] using h1) h2)
  rw [Addr.add_mid, Nat.zero_add, hr.cell]
  exact hu
theorem own_shape2 {w : World} {B : Nat} {e : TypeId} {s : Nat} {v : Value} {n : Nat} {xs : List Value} (h : w.ownsRow B e s v n xs) : ∃ a c, v = .slice a n c := by
  rcases h.2 with ⟨rfl, rfl⟩ | ⟨g, cap, cur, rfl, _⟩
  · exact ⟨_, _, rfl⟩
  · exact ⟨_, _, rfl⟩
/-- Where a reader is. -/
def rdAt (w : World) (g : Nat) : Nat := match w.cell? ⟨g, 1, none⟩ with
  | some v => (intOf v).toNat
  | none => 0
theorem Rd.place {w : World} {g : Nat} {l : List UInt8} {p : Nat} {y : Int} (h : Rd w g bv l p y) : rdAt w g = p := by
  obtain ⟨c, _, c1, _⟩ := h.cells
  unfold rdAt
  rw [c1]
  simp [intOf]
/-- octet.New, the bytes in memory of its own. -/
theorem new_own (a : Option Addr) (n c : Nat) (l : List UInt8) (w : World) (hs : Src w a n c (bcells l)) (hn : n ≤ 140737488355328) :
    Calls Tryz.prog 67 #[.slice a n c] w fun e w' => ∃ g bv, e = .returned (.pointer (some ⟨g, 0, none⟩)) ∧ w.heap.size ≤ g ∧ (∃ d, w'.ownsRow w.heap.size 5 1 (.slice bv l.length d) l.length (bcells l)) ∧ Rd w' g bv l 0 0 ∧ Below w.heap.size w w' := by
  go_enter Tryz.func67, Tryz.ntmps67
  go_wp2_with (go_at_call 105; refine (clone_any a n c l w hs hn).mono ?_; rintro e w0 ⟨a0, c0, rfl, hown0, hb0⟩)
  go_ret
  obtain ⟨a1, c1, hv, hs1, hlt⟩ := Src.ofOwn hown0
  cases hv
  refine ⟨_, a0, rfl, hb0.size, ⟨c0, hown0.alloc _⟩, ⟨Nat.zero_le _, by have := hs.blen; omega, ?_, _, heap_alloc_new _ _, ?_, hs1.alloc _⟩, hb0.alloc hb0.size _⟩
  · intro ad had h
    have := (hlt ad had).2
    omega
  · rcases hown0.2 with ⟨h1, h2⟩ | ⟨g, cap, cur, h1, _, _, h4, _⟩
    · omega
    · cases h1; exact h4
/-- What Split tells: so many pieces, the error. -/
def Splits (w : World) (l : List UInt8) (e : Ending) (w' : World) : Prop :=
  ∃ a c ps, e = .returned (.tuple #[.slice a ps.length c, .int .i64 (splL l).2]) ∧ keys ps = (splL l).1 ∧ w'.ownsRow w.heap.size 94 2 (.slice a ps.length c) ps.length (rcs ps) ∧ Bods w.heap.size w' ps ∧ ps.length ≤ l.length ∧ Below w.heap.size w w'
/-- What Split's rounds keep. -/
structure SpAt (w wr : World) (g : Nat) (bv : Option Addr) (l : List UInt8) (v : Value) (p : Nat) (ps : List Pc) : Prop where
  rd : Rd wr g bv l p 0
  own : wr.ownsRow w.heap.size 94 2 v ps.length (rcs ps)
  bods : Bods w.heap.size wr ps
  bel : Below w.heap.size w wr
  le : ps.length ≤ p
  k1 : keys ps ++ (splL (l.drop p)).1 = (splL l).1
  k2 : (splL (l.drop p)).2 = (splL l).2
  hg : w.heap.size ≤ g
  byt : ∃ d, wr.ownsRow w.heap.size 5 1 (.slice bv l.length d) l.length (bcells l)
/-- Behind calls that change the reader alone. -/
structure SpIn (w wr : World) (g : Nat) (bv : Option Addr) (l : List UInt8) (v : Value) (p : Nat) (y : Int) (ps : List Pc) : Prop where
  rd : Rd wr g bv l p y
  own : wr.ownsRow w.heap.size 94 2 v ps.length (rcs ps)
  bods : Bods w.heap.size wr ps
  bel : Below w.heap.size w wr
  hg : w.heap.size ≤ g
  byt : ∃ d, wr.ownsRow w.heap.size 5 1 (.slice bv l.length d) l.length (bcells l)
theorem SpAt.inn {w wr : World} {g : Nat} {l : List UInt8} {v : Value} {p : Nat} {ps : List Pc} (h : SpAt w wr g bv l v p ps) : SpIn w wr g bv l v p 0 ps := ⟨h.rd, h.own, h.bods, h.bel, h.hg, h.byt⟩
theorem SpIn.now {w wr w' : World} {g : Nat} {l : List UInt8} {v : Value} {p q : Nat} {y z : Int} {ps : List Pc} (h : SpIn w wr g bv l v p y ps) (hn : Now wr w' g bv l q z) : SpIn w w' g bv l v q z ps :=
  ⟨hn.rd, own_now h.own h.rd hn (by decide), h.bods.now h.rd hn, now_below h.bel h.bel.size h.hg hn, h.hg, by obtain ⟨d, hd⟩ := h.byt; exact ⟨d, own_now hd h.rd hn (by decide)⟩⟩
theorem SpIn.alloc {w wr : World} {g : Nat} {l : List UInt8} {v : Value} {p : Nat} {y : Int} {ps : List Pc} (h : SpIn w wr g bv l v p y ps) (o : Obj) : SpIn w (wr.alloc o) g bv l v p y ps := h.now (h.rd.now.alloc o)
theorem SpIn.next {w w4 w5 : World} {g : Nat} {l : List UInt8} {u v : Value} {q : Nat} {ps : List Pc} {pc : Pc} (h : SpIn w w4 g bv l u q 0 ps) (hp : w4.ownsRow w.heap.size 5 1 (.slice pc.a pc.n pc.c) pc.n (bcells pc.l)) (own5 : w5.ownsRow w.heap.size 94 2 v (ps.length + 1) (rcs (ps ++ [pc]))) (hg5 : w4.grownBy w5 u.ownBlock)
    (hle : ps.length + 1 ≤ q) (k1 : keys (ps ++ [pc]) ++ (splL (l.drop q)).1 = (splL l).1) (k2 : (splL (l.drop q)).2 = (splL l).2) : SpAt w w5 g bv l v q (ps ++ [pc]) := by
  obtain ⟨d, hd⟩ := h.byt
  have ap := fun {B n : Nat} {v : Value} {xs : List Value} (h' : w4.ownsRow B 5 1 v n xs) => own_apart h' h.own (fun e => ne51 e.symm)
  have k0 : Bods w.heap.size w4 (ps ++ [pc]) := by
    intro r hr
    rcases List.mem_append.1 hr with hr | hr
    · exact h.bods r hr
    · obtain rfl : r = pc := by simpa using hr
      exact hp
  refine ⟨h.rd.kept hg5 (fun e => h.rd.own_ne h.own (by decide) e.symm) (fun ad had hl e => ?_), by simpa using own5, k0.keep hg5 (fun r hr => ap (k0 r hr)), h.bel.grown hg5 h.bel.size (fun k hk => (h.own.lt k hk).1), by simpa using hle, k1, k2, h.hg, d, own_keep hd hg5 (ap hd)⟩
  subst had
  rcases ap hd with hx | hx
  · exact hx e
  · rw [hx] at e; cases e
theorem SpIn.done {w w4 : World} {g : Nat} {l : List UInt8} {u : Value} {q : Nat} {y : Int} {ps : List Pc} (h : SpIn w w4 g bv l u q y ps) {z : Int} (hz : z = (splL l).2) (hk : keys ps = (splL l).1) (hle : ps.length ≤ l.length) : Splits w l (.returned (.tuple #[u, .int .i64 z])) w4 := by
  obtain ⟨a1, c1, rfl⟩ := own_shape2 h.own
  subst hz
  exact ⟨a1, c1, ps, rfl, hk, h.own, h.bods, hle, h.bel⟩

theorem split_any (a : Option Addr) (n c : Nat) (l : List UInt8) (w : World) (hs : Src w a n c (bcells l)) (hn : n ≤ 3000000000000) : Calls Tryz.prog 42 #[.slice a n c] w (Splits w l) := by
  have HN : Hid (n = l.length) := hs.blen
  go_enter Tryz.func42, Tryz.ntmps42
  go_wp2_with (go_at_call 67; refine (new_own a n c l w hs (by omega)).mono ?_; rintro e w1 ⟨g, bv, rfl, hg1, hv1, hr1, hb1⟩)
  go_loopw [4] (fun v wr => ∃ p ps, SpAt w wr g bv l v p ps) (fun _ wr => n - rdAt wr g)
  case atStart => exact ⟨0, [], hr1, World.ownsRow_nil _ _ _ _, (fun _ h => by cases h), hb1, Nat.le_refl _, by simp [keys], by simp, hg1, hv1⟩
  case round =>
    clear hr1 hb1 hv1 hs
    obtain ⟨p, ps, H⟩ := hrel
    have hpl := H.rd.le
    have hat := H.rd.place
    have hple := H.le
    have hk1 := H.k1
    have hk2 := H.k2
    have H2 := H.inn
    clear H
    by_cases hlt : p < l.length
    · have hL : Hid (∀ w0, Rd w0 g bv l p 0 → Calls Tryz.prog 71 #[.pointer (some ⟨g, 0, none⟩)] w0 fun e w' => ∃ k : Nat, 0 < k ∧ e = .returned (.int .i64 k) ∧ Now w0 w' g bv l p 0) := fun w0 h0 => by
        refine (left_any g l p 0 w0 h0).mono ?_
        rintro e w' ⟨rfl, h⟩
        exact ⟨l.length - p, by omega, rfl, h⟩
      by_cases h0 : l[p].toNat = 0
      · rw [spl_pad hlt h0] at hk1 hk2
        have HR : Hid (∀ w0, Rd w0 g bv l p 0 → Calls Tryz.prog 74 #[.pointer (some ⟨g, 0, none⟩)] w0 fun e w' => e = .returned (.agg #[.int .u8 0, .slice none 0 0]) ∧ Now w0 w' g bv l (p + 1) 0) := fun w0 hr => read_pad hr hlt h0
        have HK : Hid (keys (ps ++ [⟨0, none, 0, 0, []⟩]) ++ (splL (l.drop (p + 1))).1 = (splL l).1 ∧ (splL (l.drop (p + 1))).2 = (splL l).2) := ⟨by rw [← hk1]; simp [keys], hk2⟩
        clear h0 hk1 hk2
        go_wp2_with (first
          | (at_builtin; have kk := H4; refine append_raw rfl (.tmp 24) (.tmp 26) rfl w.heap.size u4 ps.length ps rfl (H4.own.alloc _) w4.heap.size ⟨0, none, 0, 0, []⟩ 1 rfl (Row.new w4 _ _) (by have := HN.out; omega) (by have := H4.bel.size; simp; omega) ?_; intro v5 w5 own5 hg5)
          | (go_at_call 70; have kk := H3; refine (why_any g l (p + 1) 0 _ (H3.alloc _).rd).mono ?_; rintro e w4 ⟨rfl, hn4⟩; have H4 := (H3.alloc (.cells #[.int .u8 0, .slice none 0 0] 94)).now hn4; have r4 := row_now (Row.new w3 94 [.int .u8 0, .slice none 0 0]) hn4 (by have := H3.rd.lt; omega); have c0 : w4.cell? ⟨w3.heap.size, 0, none⟩ = some (.int .u8 0) := r4.cell 0; have c1 : w4.cell? ⟨w3.heap.size, 1, none⟩ = some (.slice none 0 0) := r4.cell 1)
          | (go_at_call 74; refine (HR.out _ hn2.rd).mono ?_; rintro e w3 ⟨rfl, hn3⟩; have H3 := (H2.now hn2).now hn3)
          | (go_at_call 71; refine (hL.out _ H2.rd).mono ?_; rintro e w2 ⟨k, hk, rfl, hn2⟩))
        go_roundw
        case rel => exact ⟨p + 1, _, (H4.alloc _).next (World.ownsRow_nil _ _ _ _) own5 hg5 (by omega) HK.out.1 HK.out.2⟩
        case measure =>
          have := ((H4.alloc _).next (World.ownsRow_nil _ _ _ _) own5 hg5 (by omega) HK.out.1 HK.out.2).rd.place
          have := HN.out
          omega
      · by_cases hk : ∃ hp1 : p + 1 < l.length, p + 2 + l[p + 1].toNat ≤ l.length
        · obtain ⟨hp1, hk⟩ := hk
          rw [spl_yes hp1 h0 hk] at hk1 hk2
          have HR : Hid (∀ w0, Rd w0 g bv l p 0 → Calls Tryz.prog 74 #[.pointer (some ⟨g, 0, none⟩)] w0 fun e w' => ∃ a c, e = .returned (.agg #[.int .u8 (l[p].toNat : Int), .slice a l[p + 1].toNat c]) ∧ w'.ownsRow w0.heap.size 5 1 (.slice a l[p + 1].toNat c) l[p + 1].toNat (bcells ((l.drop (p + 2)).take l[p + 1].toNat)) ∧ Now w0 w' g bv l (p + 2 + l[p + 1].toNat) 0) := fun w0 hr => read_yes hr hp1 h0 hk
          have HK : Hid (∀ a c, keys (ps ++ [⟨l[p], a, l[p + 1].toNat, c, (l.drop (p + 2)).take l[p + 1].toNat⟩]) ++ (splL (l.drop (p + 2 + l[p + 1].toNat))).1 = (splL l).1 ∧ (splL (l.drop (p + 2 + l[p + 1].toNat))).2 = (splL l).2) := fun a c => ⟨by rw [← hk1]; simp [keys], hk2⟩
          clear hk1 hk2
          generalize l[p] = t at *
          generalize l[p + 1].toNat = k at *
          generalize hD : (l.drop (p + 2)).take k = D at *
          clear hD
          go_wp2_with (first
            | (at_builtin; have kk := H4; refine append_raw rfl (.tmp 24) (.tmp 26) rfl w.heap.size u4 ps.length ps rfl (H4.own.alloc _) w4.heap.size ⟨t, a3, k, c3, D⟩ 1 rfl (Row.new w4 _ _) (by have := HN.out; omega) (by have := H4.bel.size; simp; omega) ?_; intro v5 w5 own5 hg5)
            | (go_at_call 70; have kk := H3; refine (why_any g l (p + 2 + k) 0 _ (H3.alloc _).rd).mono ?_; rintro e w4 ⟨rfl, hn4⟩; have H4 := (H3.alloc (.cells #[.int .u8 (t.toNat : Int), .slice a3 k c3] 94)).now hn4; have r4 := row_now (Row.new w3 94 [.int .u8 (t.toNat : Int), .slice a3 k c3]) hn4 (by have := H3.rd.lt; omega); have c0 : w4.cell? ⟨w3.heap.size, 0, none⟩ = some (.int .u8 (t.toNat : Int)) := r4.cell 0; have c1 : w4.cell? ⟨w3.heap.size, 1, none⟩ = some (.slice a3 k c3) := r4.cell 1; have o4 := own_now (o3.alloc (.cells #[.int .u8 (t.toNat : Int), .slice a3 k c3] 94)) (H3.alloc _).rd hn4 (by decide))
            | (go_at_call 74; refine (HR.out _ hn2.rd).mono ?_; rintro e w3 ⟨a3, c3, rfl, o3, hn3⟩; have H3 := (H2.now hn2).now hn3)
            | (go_at_call 71; refine (hL.out _ H2.rd).mono ?_; rintro e w2 ⟨kq, hkq, rfl, hn2⟩))
          have o5 : w4.ownsRow w.heap.size 5 1 (.slice a3 k c3) k (bcells D) := own_le o4 (H2.now hn2).bel.size
          go_roundw
          case rel => exact ⟨p + 2 + k, _, (H4.alloc _).next (pc := ⟨t, a3, k, c3, D⟩) (o5.alloc _) own5 hg5 (by omega) (HK.out a3 c3).1 (HK.out a3 c3).2⟩
          case measure =>
            have := ((H4.alloc _).next (pc := ⟨t, a3, k, c3, D⟩) (o5.alloc _) own5 hg5 (by omega) (HK.out a3 c3).1 (HK.out a3 c3).2).rd.place
            have := HN.out
            omega
        · have hk' : ∀ hp1 : p + 1 < l.length, l.length < p + 2 + l[p + 1].toNat := fun hp1 => by
            by_cases hq : p + 2 + l[p + 1].toNat ≤ l.length
            · exact absurd ⟨hp1, hq⟩ hk
            · omega
          rw [spl_no hlt h0 hk'] at hk1 hk2
          have HR : Hid (∀ w0, Rd w0 g bv l p 0 → Calls Tryz.prog 74 #[.pointer (some ⟨g, 0, none⟩)] w0 fun e w' => ∃ t a c q, e = .returned (.agg #[.int .u8 t, .slice a 0 c]) ∧ Now w0 w' g bv l q 3) := fun w0 hr => read_no hr hlt h0 hk'
          have HK : Hid (keys ps = (splL l).1 ∧ (52 : Int) = (splL l).2) := ⟨by rw [← hk1]; simp, hk2⟩
          clear hk1 hk2 hk hk' h0
          go_wp2_with (first
            | (go_at_call 70; have kk := H3; refine (why_any g l q 3 _ (H3.alloc _).rd).mono ?_; rintro e w4 ⟨rfl, hn4⟩; have H4 := (H3.alloc _).now hn4)
            | (go_at_call 74; refine (HR.out _ hn2.rd).mono ?_; rintro e w3 ⟨t, a3, c3, q, rfl, hn3⟩; have H3 := (H2.now hn2).now hn3)
            | (go_at_call 71; refine (hL.out _ H2.rd).mono ?_; rintro e w2 ⟨kq, hkq, rfl, hn2⟩))
          go_ret2
          exact H4.done HK.out.2 HK.out.1 (by omega)
    · have hL : ((l.length - p : Nat) : Int) = 0 := by omega
      have HL : Hid (∀ w0, Rd w0 g bv l p 0 → Calls Tryz.prog 71 #[.pointer (some ⟨g, 0, none⟩)] w0 fun e w' => e = .returned (.int .i64 0) ∧ Now w0 w' g bv l p 0) := fun w0 h0 => by
        have := left_any g l p 0 w0 h0
        rw [hL] at this
        exact this
      rw [spl_end (l := l) (p := p) (by omega)] at hk1 hk2
      have HK : Hid (keys ps = (splL l).1 ∧ (0 : Int) = (splL l).2) := ⟨by rw [← hk1]; simp, hk2⟩
      clear hL hk1 hk2
      go_wp2_with (go_at_call 71; refine (HL.out _ H2.rd).mono ?_; rintro e w2 ⟨rfl, hn2⟩)
      go_ret2
      exact (H2.now hn2).done HK.out.2 HK.out.1 (by omega)
end Go.Proofs.YtdibjgcokebfbaaGreat
