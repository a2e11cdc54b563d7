/-
  The contract of PutBytes for every slices of bytes within memory.
-/
import Derived.Test.YtgkonglkfjbmnaaStr
namespace Go.Proofs.Ytgkonglkfjbmnaa
open Go.RowKit

/-- A slice of bytes among others: where it lies, its length, its room, its bytes. -/
structure Part where
  a : Option Addr
  n : Nat
  c : Nat
  l : List UInt8
def pcells (ps : List Part) : List Value := ps.map fun q => .slice q.a q.n q.c
def Parts (w : World) (ps : List Part) : Prop := ∀ q ∈ ps, Src w q.a q.n q.c (bcells q.l)
def flat (ps : List Part) : List UInt8 := ps.flatMap Part.l
theorem Parts.below {w w' : World} {ps : List Part} (h : Parts w ps) (hb : Below w.heap.size w w') : Parts w' ps := fun q hq => (h q hq).below hb (h q hq).lt
theorem Src.plen {w : World} {a : Option Addr} {n c : Nat} {ps : List Part} (hs : Src w a n c (pcells ps)) : n = ps.length := by simpa [pcells] using hs.len.symm
theorem Src.partAt {w : World} {ad : Addr} {n c : Nat} {ps : List Part} (h : Src w (some ad) n c (pcells ps)) (j : Nat) (hj : j < ps.length) : w.cell? (ad.add j) = some (.slice ps[j].a ps[j].n ps[j].c) :=
  h.cell ad rfl j _ (by simp [pcells, hj])
theorem flat_take (ps : List Part) (j : Nat) (hj : j < ps.length) : flat (ps.take (j + 1)) = flat (ps.take j) ++ ps[j].l := by
  unfold flat
  rw [List.take_succ_eq_append_getElem hj, List.flatMap_append]; simp
theorem flat_le (ps : List Part) (j : Nat) : (flat (ps.take j)).length ≤ (flat ps).length := by
  have h : flat ps = flat (ps.take j) ++ flat (ps.drop j) := by
    unfold flat
    rw [← List.flatMap_append, List.take_append_drop]
  rw [h]
  simp

set_option maxHeartbeats 1000000 in
theorem putb_any (a : Option Addr) (n c : Nat) (l : List UInt8) (b : Option Addr) (m d : Nat) (ps : List Part) (w : World) (hs : Src w a n c (bcells l)) (ht : Src w b m d (pcells ps)) (hp : Parts w ps) (hm : m ≤ 140737488355328) (hn : n + (flat ps).length ≤ 140737488355328) :
    Calls Try.prog 24 #[.slice a n c, .slice b m d] w (Laid w (l ++ flat ps)) := by
  have HM : Hid (m = ps.length) := ht.plen
  have HN : Hid (n = l.length) := hs.blen
  obtain ⟨F, hF⟩ : ∃ F, Hid (F = (flat ps).length) := ⟨_, rfl⟩
  have hnF : n + F ≤ 140737488355328 := by have := hF.out; omega
  go_enter Try.func24, Try.ntmps24
  go_wp2
  go_loopw [5, 13] (fun s i wr => ∃ j : Nat, j ≤ m ∧ i = .int .i64 j ∧ s = .int .i64 ((flat (ps.take j)).length : Int) ∧ w = wr) (fun _ i _ => m - (intOf i).toNat)
  case atStart => exact ⟨0, Nat.zero_le _, rfl, rfl, rfl⟩
  case round =>
    obtain ⟨j, hj, rfl, rfl, rfl⟩ := hrel
    by_cases hlt : j < m
    · cases b with
      | none => exact absurd (ht.bare rfl).1 (by omega)
      | some ad =>
        have hjk : j < ps.length := by have := HM.out; omega
        have hc := ht.partAt j hjk
        have hq := hp ps[j] (List.getElem_mem hjk)
        have hft := flat_take ps j hjk
        have hle := flat_le ps (j + 1)
        have hbl := hq.blen
        rw [hft, List.length_append] at hle
        generalize hV : (flat (ps.take j)).length = V at *
        have HS : Hid ((flat (ps.take (j + 1))).length = V + ps[j].n) := by show _ = _; rw [hft, List.length_append, hV, hbl]
        have hb2 : V + ps[j].n ≤ 140737488355328 := by have := hF.out; omega
        generalize ps[j].a = qa at *
        generalize ps[j].n = qn at *
        generalize ps[j].c = qc at *
        clear hft hle hbl hV hq
        go_wp2
        go_roundw
        case rel => exact ⟨j + 1, by omega, by go_num, by rw [HS.out]; go_num, trivial⟩
        case measure => simp [intOf]; omega
    · obtain rfl : m = j := by omega
      have e : (flat (ps.take m)).length = F := by rw [List.take_of_length_le (by have := HM.out; omega)]; exact hF.out.symm
      rw [e]
      clear e
      go_wp2_with (go_at_call 35; refine (room_any a n c l F _ hs hnF).mono ?_; intro e w0 hl0; obtain ⟨a0, c0, rfl, hown0, hb0⟩ := hl0)
      go_loopw [8, 27] (fun v i wr => ∃ j : Nat, j ≤ m ∧ i = .int .i64 j ∧ wr.ownsRow w.heap.size 5 1 v (l.length + (flat (ps.take j)).length) (bcells (l ++ flat (ps.take j))) ∧ Below w.heap.size w wr) (fun _ i _ => m - (intOf i).toNat)
      case atStart => exact ⟨0, Nat.zero_le _, rfl, by simpa [flat] using hown0, hb0⟩
      case round =>
        clear hown0 hb0
        obtain ⟨j, hj, rfl, hown, hbl⟩ := hrel
        by_cases hlt : j < m
        · cases b with
          | none => exact absurd (ht.bare rfl).1 (by omega)
          | some ad =>
            have hjk : j < ps.length := by have := HM.out; omega
            have hc := (ht.below hbl ht.lt).partAt j hjk
            have hq := (hp.below hbl) ps[j] (List.getElem_mem hjk)
            have hft := flat_take ps j hjk
            have hle := flat_le ps (j + 1)
            have hq2 := hq.blen
            rw [hft, List.length_append] at hle
            have HS : Hid ((flat (ps.take (j + 1))).length = (flat (ps.take j)).length + ps[j].n ∧ bcells (l ++ flat (ps.take (j + 1))) = bcells (l ++ flat (ps.take j)) ++ bcells ps[j].l) := ⟨by rw [hft, List.length_append, hq2], by rw [hft, ← List.append_assoc, bcells_append _ ps[j].l]⟩
            have hb2 : l.length + (flat (ps.take j)).length + ps[j].n ≤ 140737488355328 := by have := hF.out; have := HN.out; omega
            generalize ps[j].a = qa at *
            generalize ps[j].n = qn at *
            generalize ps[j].c = qc at *
            generalize ps[j].l = ql at *
            clear hft hle hq2
            go_wp2_with (at_builtin; refine append_src rfl (.tmp 31) (.tmp 32) rfl w.heap.size _ (l.length + (flat (ps.take j)).length) _ rfl hown qa qn qc (bcells ql) rfl hq (bcells_one ql) hb2 hbl.size ?_; intro v' w1 hown1 hg1 _)
            go_roundw
            case rel => exact ⟨j + 1, by omega, by go_num, by rw [HS.out.1, HS.out.2, ← Nat.add_assoc]; exact hown1, hbl.grown hg1 hbl.size (ownBlock_ge hown)⟩
            case measure => simp [intOf]; omega
        · obtain rfl : m = j := by omega
          go_wp2
          go_ret
          rw [List.take_of_length_le (by have := HM.out; omega)] at hown
          exact Laid.mk (n := l.length + (flat ps).length) (by simp) hown hbl
end Go.Proofs.Ytgkonglkfjbmnaa
