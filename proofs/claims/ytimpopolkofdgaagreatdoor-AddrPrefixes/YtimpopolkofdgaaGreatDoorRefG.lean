/-
  The document's groups, for every text.
-/
import Derived.Test.YtimpopolkofdgaaGreatDoorRefF
import Derived.Test.YtimpopolkofdgaaGreatDoorGroups
namespace Go.Proofs.YtimpopolkofdgaaGreatDoor
open Go.RowKit
set_option linter.unusedSimpArgs false
set_option maxRecDepth 20000
/-! ### The document's groups -/
def hexL : List (List UInt8) → List Nat → Option (List Nat)
  | [], acc => some acc
  | p :: ps, acc => match hexS p with
    | some u => hexL ps (acc ++ [u])
    | none => none
def grpI (s : List UInt8) : Option (List Nat) := if s = [] then some [] else hexL (pieces 58 s) []
def bytesG : List Nat → List UInt8
  | [] => []
  | u :: r => UInt8.ofNat (u / 256) :: UInt8.ofNat u :: bytesG r
theorem bytesG_len : ∀ L, (bytesG L).length = 2 * L.length
  | [] => rfl
  | u :: r => by simp [bytesG, bytesG_len r]; omega
theorem bytesG_append : ∀ L M, bytesG (L ++ M) = bytesG L ++ bytesG M
  | [], M => rfl
  | u :: r, M => by simp [bytesG, bytesG_append r M]
theorem hexL_ge : ∀ (ps : List (List UInt8)) (acc L : List Nat), hexL ps acc = some L → L.length = acc.length + ps.length
  | [], acc, L, h => by cases h; simp
  | p :: ps, acc, L, h => by
    simp only [hexL] at h
    split at h
    · have := hexL_ge ps _ L h
      simp at this ⊢
      omega
    · cases h
theorem grpGo_hex : ∀ (ps : List (List UInt8)) (acc : List Nat), acc.length ≤ 8 → grpGo ps (bytesG acc) = match hexL ps acc with | some L => if L.length ≤ 8 then some (bytesG L) else none | none => none
  | [], acc, h => by simp [grpGo, hexL, h]
  | p :: ps, acc, h => by
    simp only [grpGo, hexL, hexS]
    by_cases hp : p.length ≤ 4
    · rw [if_pos hp]
      cases hu : puE 16 p with
      | none => rfl
      | some u =>
        dsimp only
        by_cases h8 : acc.length = 8
        · rw [if_neg (fun q => q.2 (by rw [bytesG_len]; omega))]
          cases hL : hexL ps (acc ++ [u]) with
          | none => rfl
          | some L =>
            dsimp only
            have := hexL_ge _ _ _ hL
            simp at this
            rw [if_neg (by omega)]
        · rw [if_pos ⟨hp, by rw [bytesG_len]; omega⟩, ← grpGo_hex ps (acc ++ [u]) (by simp; omega), bytesG_append]
          rfl
    · rw [if_neg hp]
      cases hu : puE 16 p with
      | none => rfl
      | some u => dsimp only; rw [if_neg (fun q => hp q.1)]
theorem grp_hex (s : List UInt8) : grp s = match grpI s with | some L => if L.length ≤ 8 then some (bytesG L) else none | none => none := by
  unfold grp grpI
  by_cases h : s = []
  · rw [if_pos h, if_pos h]; rfl
  · rw [if_neg h, if_neg h]
    exact grpGo_hex (pieces 58 s) [] (by simp)
def icells (L : List Nat) : List Value := L.map fun (n : Nat) => Value.int .i64 n
theorem icells_append (l m : List Nat) : icells (l ++ m) = icells l ++ icells m := by simp [icells]
theorem infoI : (Tryz.prog.info? 3).map (fun i => (i.zero, i.size, i.bytes)) = some (some (.int .i64 0), 1, 8) := by kernel_rfl
/-- What groups answers. -/
def GI (n0 : Nat) (r : Option (List Nat)) (e : Ending) (W : World) : Prop := (∃ L v, r = some L ∧ e = .returned (.tuple #[v, .bool true]) ∧ W.ownsRow n0 3 1 v L.length (icells L)) ∨ (r = none ∧ e = .returned (.tuple #[.slice none 0 0, .bool false]))
theorem own_belowS {W W' : World} {n0 k : Nat} {t : TypeId} {xs : List Value} {v : Value} (ho : W.ownsRow n0 t 1 v k xs) (hb : Below W.heap.size W W') : W'.ownsRow n0 t 1 v k xs :=
  ho.kept (row := none) ⟨hb.os, hb.tape, hb.output, hb.size, fun i hi _ => hb.block i hi⟩ (by cases v.ownBlock <;> simp)
theorem own_lower {W : World} {n0 n1 k : Nat} {t : TypeId} {xs : List Value} {v : Value} (h : W.ownsRow n1 t 1 v k xs) (hl : n0 ≤ n1) : W.ownsRow n0 t 1 v k xs :=
  ⟨h.1, h.2.elim .inl (fun ⟨g, cap, cur, a, b, c⟩ => .inr ⟨g, cap, cur, a, Nat.le_trans hl b, c⟩)⟩
theorem rgroups_any (t : ByteArray) (w : World) (hlim : t.size ≤ 1000000) : Calls Tryz.prog 76 #[.string t] w fun e w' => GI w.heap.size (grpI t.data.toList) e w' ∧ Below w.heap.size w w' := by
  have hE : t.toList = t.data.toList := ByteArray.toList_eq t
  have hl : t.data.toList.length = t.size := Lib.size_eq t
  by_cases h0 : t.data.toList = []
  · have HV : Hid (grpI t.data.toList = some []) := by show _ = _; rw [grpI, if_pos h0]
    have e0 : t.toList.isEmpty = true := by rw [hE, h0]; rfl
    generalize grpI t.data.toList = V at *
    clear hE h0 hl
    go_enter Tryz.func76, Tryz.ntmps76
    go_wp2
    go_ret2
    exact ⟨.inl ⟨[], _, HV.out, rfl, World.ownsRow_nil _ _ _ _⟩, Below.refl _ _⟩
  have e0 : t.toList.isEmpty = false := by rw [hE]; simpa using h0
  have hCut := fun W => rcut_any t 58 W hlim
  have HV : Hid (grpI t.data.toList = hexL (pieces 58 t.data.toList) []) := by show _ = _; rw [grpI, if_neg h0]
  have HC : Hid ((pieces 58 t.data.toList).length ≤ 1000001) := by have := pieces_count 58 t.data.toList; show _ ≤ _; omega
  generalize grpI t.data.toList = V at *
  generalize pieces 58 t.data.toList = ps at *
  clear hE h0 hl
  obtain ⟨i0, hi, hz0, hz1, hz2⟩ := info_parts infoI
  go_enter Tryz.func76, Tryz.ntmps76
  go_wp2_with (go_at_call 60; refine (hCut _).mono ?_; rintro e w1 ⟨v, rfl, hO, hb⟩; obtain ⟨sa, sc, rfl, hsn, hsc⟩ := own_s hO; clear hsc)
  have hb1 := hb
  have hsz : w.heap.size ≤ w1.heap.size := hb.size
  go_loopw [4, 6] (fun o i wr => ∃ (j : Nat) (acc : List Nat), j ≤ ps.length ∧ i = .int .i64 j ∧ acc.length = j ∧ hexL (ps.drop j) acc = hexL ps [] ∧ wr.ownsRow w1.heap.size 3 1 o acc.length (icells acc) ∧ Below w1.heap.size w1 wr) (fun _ i _ => ps.length - (intOf i).toNat)
  case atStart => exact ⟨0, [], by omega, rfl, rfl, rfl, World.ownsRow_nil _ _ _ _, Below.refl _ _⟩
  case round =>
    rename_i wr
    obtain ⟨j, acc, hj, rfl, hal, hg, hA, hbw⟩ := hrel
    have hO' := own_belowS hO hbw
    have hN := HC.out
    by_cases hlt : j < ps.length
    · obtain ⟨p, hp⟩ : ∃ p, ps[j]? = some p := ⟨_, List.getElem?_eq_getElem hlt⟩
      obtain ⟨a', c', he, _, hcs⟩ := own_s hO'
      cases he
      have hdr : ps.drop j = p :: ps.drop (j + 1) := by
        obtain ⟨h1, h2⟩ := List.getElem?_eq_some_iff.1 hp
        rw [List.drop_eq_getElem_cons h1, h2]
      rw [hdr] at hg
      simp only [hexL] at hg
      have hD := rhex_any (str p)
      rw [show (str p).data.toList = p from rfl, hexV] at hD
      cases sa with
      | none => exact absurd (hsn rfl) (by omega)
      | some ad =>
        have hc := hcs ad rfl j p hp
        clear hcs hdr hp hsn hO'
        cases hnum : hexS p with
        | none =>
          rw [hnum] at hD hg
          have e4 : V = none := by rw [HV.out, ← hg]
          clear hg hnum HV
          go_wp2_with (go_at_call 89; refine (hD _).mono ?_; rintro e w' ⟨rfl, rfl⟩)
          go_ret2
          exact ⟨.inr ⟨e4, rfl⟩, hb.trans (hbw.mono hsz)⟩
        | some u =>
          rw [hnum] at hD hg
          dsimp only at hD hg
          have HG : Hid (hexL (ps.drop (j + 1)) (acc ++ [u]) = hexL ps []) := hg
          clear hg hnum
          go_wp2_with (first
            | (go_at_call 89; refine (hD _).mono ?_; rintro e w' ⟨rfl, rfl⟩)
            | (at_builtin; refine wpList_append_own _ rfl (.tmp 29) (.tmp 31) 94 rfl w1.heap.size 3 i0 (.int .i64 0) 1 8 Tryz.underlying94 hi hz0 hz1 hz2 rfl (by decide) _ _ _ rfl (hA.alloc _) ⟨wr.heap.size, 0, none⟩ 1 1 [.int .i64 (u : Int)] rfl rfl (fun i x hu => by rw [Addr.add_mid]; simpa using (Row.new wr 3 [.int .i64 (u : Int)]).range i x hu) (by simp [Value.oneCell']) (by unfold maxLen; omega) (by omega) (by have := hbw.size; simp; omega) ?_; intro v' w3 hown hgrow _; replace hbw := (hbw.alloc hbw.size _).grown hgrow (by have := hbw.size; simp; omega) (fun k hk => (hA.lt k hk).1); clear hgrow hA))
          go_roundw
          case rel => exact ⟨j + 1, acc ++ [u], by omega, by go_num, by simp; omega, HG.out, by rw [icells_append, List.length_append]; simpa [icells] using hown, hbw⟩
          case measure => simp [intOf]; omega
    · have e4 : V = some acc := by
        rw [HV.out, ← hg, List.drop_eq_nil_of_le (by omega)]
        rfl
      clear hg HV
      go_wp2
      go_ret2
      exact ⟨.inl ⟨acc, _, e4, rfl, own_lower hA hsz⟩, hb.trans (hbw.mono hsz)⟩
end Go.Proofs.YtimpopolkofdgaaGreatDoor
