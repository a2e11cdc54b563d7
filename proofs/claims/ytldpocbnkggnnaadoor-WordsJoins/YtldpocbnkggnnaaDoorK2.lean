/-
  The contract of quoted, for every text that begins with a quotation mark.
-/
import Derived.Test.YtldpocbnkggnnaaDoorK1
import Derived.WalkMore
namespace Go.Proofs.YtldpocbnkggnnaaDoor
open Go.RowKit
set_option linter.unusedSimpArgs false
set_option maxRecDepth 20000

def fstV : Fst → Value
  | .ok (x, b) => .tuple #[.string (str x), .string (str b), .int .i64 0]
  | .error e => .tuple #[.string ⟨#[]⟩, .string ⟨#[]⟩, .int .i64 (e : Nat)]
theorem app_t (a b : ByteArray) : (a ++ b).data.toList = a.data.toList ++ b.data.toList := by simp [ByteArray.data_append]
theorem ext_l (t : ByteArray) (p : Nat) : (t.extract p t.size).data.toList = t.data.toList.drop p := by rw [ext_end]
/-- string(b). -/
theorem Src.byteAt {w : World} {ad : Addr} {n c : Nat} {l : List UInt8} (h : Src w (some ad) n c (bcells l)) (j : Nat) (hj : j < l.length) : w.cell? (ad.add j) = some (.int .u8 (l[j].toNat : Int)) :=
  h.cell ad rfl j _ (by simp [bcells, hj])
theorem Src.conv {w : World} {a : Option Addr} {n c : Nat} {l : List UInt8} (h : Src w a n c (bcells l)) : (convert 62 9 (.slice a n c)).run Tryd.prog w = .ok (.string ⟨l.toArray⟩) w := by
  cases a with
  | none =>
    obtain ⟨rfl, rfl⟩ := h.bare rfl
    have hl : l = [] := List.eq_nil_of_length_eq_zero (by simpa [bcells] using h.len)
    subst hl
    exact run_convert_bytes_nil w 62 5 Tryd.underlying62 Tryd.underlying5 0 0 9 Tryd.underlying9
  | some ad =>
    obtain rfl := h.blen
    exact run_convert_bytes_back w 62 9 5 ad c l Tryd.underlying62 Tryd.underlying5 Tryd.underlying9 (fun j hj => h.byteAt j hj)
theorem new_src_of (w : World) (xs : Array Value) (t : TypeId) : Src (w.alloc (.cells xs t)) (some ⟨w.heap.size, 0, none⟩) xs.size xs.size xs.toList := by
  refine ⟨by simp, (fun h => by cases h), fun ad had j u hu => ?_⟩
  cases had
  rw [Addr.add_lit, Nat.zero_add, cell_of_row _ _ _ _ _ _ (heap_alloc_new w _)]
  simpa using hu
/-- A byte behind bytes of the call's own. -/
theorem append_b1 {w : World} {ops : Array Oper} {rest : List Oper} {o : Oper} {a : Act} {Q : Exit → Act → World → Prop} (hgd : o.guard = none) (s x : Operand)
    (ho : o.op = .call { callee := .builtin .append, args := #[s, x], argTypes := #[62, 62] })
    (base : Nat) (v : Value) (acc : List UInt8) (hs : a.eval s = v) (hown : w.ownsRow base 5 1 v acc.length (bcells acc))
    (c : UInt8) (w0 : World) (hw : w = w0.alloc (.cells #[.int .u8 (c.toNat : Int)] 5)) (hx : a.eval x = .slice (some ⟨w0.heap.size, 0, none⟩) 1 1)
    (hbytes : acc.length ≤ 140737488000000) (hbase : base ≤ w0.heap.size) {w1 : World} (hb : Below base w1 w0)
    (h : ∀ v' w', w'.ownsRow base 5 1 v' (acc ++ [c]).length (bcells (acc ++ [c])) → Below base w1 w' → wpList Tryd.prog ops Q rest (a.put o.dst v') w') : wpList Tryd.prog ops Q (o :: rest) a w := by
  subst hw
  refine append_b hgd s x ho base v acc.length (bcells acc) hs hown (some ⟨w0.heap.size, 0, none⟩) 1 1 (bcells [c]) hx (new_src_of w0 _ _) (bcells_one _) (by omega) (by simp; omega) ?_
  intro v' w' h1 h2
  refine h v' w' (by rw [bcells_append]; simpa using h1) ((hb.alloc hbase _).grown h2 (by simp; omega) (fun k hk => (hown.lt k hk).1))
theorem follows_l (t s : ByteArray) (l m : List UInt8) (ht : t.data.toList = l) (hs : s.data.toList = m) (F : Nat) (hF : F = fol l m) (w : World) : Calls Tryd.prog 52 #[.string t, .string s] w fun e w' => e = .returned (.int .i64 (F : Int)) ∧ w' = w := by
  rw [hF, ← ht, ← hs]
  exact follows_any t s w
theorem quoted_any (t : ByteArray) (r : List UInt8) (ht : t.data.toList = 34 :: r) (w : World) (hlim : t.size ≤ 1000000) :
    Calls Tryd.prog 42 #[.string t] w fun e w' => e = .returned (fstV (qd r [])) ∧ Below w.heap.size w w' := by
  have HD : Hid (∀ j (h : j < t.size), t.data.toList.drop j = t[j] :: t.data.toList.drop (j + 1)) := drop_byte t
  have HE : Hid (∀ j, t.size ≤ j → t.data.toList.drop j = []) := fun j h => by simp [len_t]; exact h
  have HX : Hid (∀ p, (t.extract p t.size).data.toList = t.data.toList.drop p) := ext_l t
  have HY : Hid (∀ p, t.extract p t.size = str (t.data.toList.drop p)) := ext_end t
  have H1 : Hid (qd r [] = qd (t.data.toList.drop 1) []) := by show _ = _; rw [ht]; rfl
  have hz : 1 ≤ t.size := by rw [← len_t, ht]; simp
  generalize t.data.toList = l at *
  generalize qd r [] = q at *
  clear ht r
  go_enter Tryd.func42, Tryd.ntmps42
  go_wp2
  go_step3
  go_wp2
  go_step3
  go_wp2
  go_loopw [5, 6] (fun v i wr => ∃ (j : Nat) (acc : List UInt8), 1 ≤ j ∧ j ≤ t.size ∧ i = .int .i64 j ∧ acc.length ≤ j ∧ Hid (q = qd (l.drop j) acc) ∧ wr.ownsRow w.heap.size 5 1 v acc.length (bcells acc) ∧ Below w.heap.size w wr) (fun _ i _ => t.size - (intOf i).toNat)
  case atStart => exact ⟨1, [], Nat.le_refl _, hz, rfl, by simp, H1, World.ownsRow_nil _ _ _ _, Below.refl _ _⟩
  case round =>
    clear H1
    rename_i wr
    obtain ⟨j, acc, hj1, hj, rfl, ha, hQ, hO, hb⟩ := hrel
    obtain ⟨av, cv, rfl, hsv, hlv⟩ := Src.ofOwn hO
    have hcv := hsv.conv
    by_cases hlt : j < t.size
    · have e1 : ((j : Int) == (t.size : Int)) = false := by rw [beq_eq_false_iff_ne]; omega
      have w1 : wrap64 ((j : Int) + 1) = (j : Int) + 1 := by unfold wrap64; omega
      by_cases c34 : t[j] = 34
      · have b34 : ((t[j].toNat : Int) == 34) = true := by rw [c34]; rfl
        have hq : Hid (q = if fol (l.drop (j + 1) ++ [32]) [32] = 0 then .ok (acc, l.drop (j + 1)) else .error (fol (l.drop (j + 1) ++ [32]) [32])) := by
          show _ = _
          rw [hQ.out, HD.out j hlt, c34, qd_34]
        obtain ⟨F, hF⟩ : ∃ F, F = fol (l.drop (j + 1) ++ [32]) [32] := ⟨_, rfl⟩
        obtain ⟨sx, hx⟩ : ∃ sx, t.extract (j + 1) t.size = sx := ⟨_, rfl⟩
        obtain ⟨st, hst⟩ : ∃ st, sx ++ ⟨#[32]⟩ = st := ⟨_, rfl⟩
        have hf := follows_l st ⟨#[32]⟩ _ _ (by rw [← hst, ← hx, app_t, HX.out]) rfl F hF
        have hS : Hid (sx = str (l.drop (j + 1))) := by show _ = _; rw [← hx, HY.out]
        have hsz : ¬ 9223372036854775807 < sx.size + 1 := by rw [← hx, ByteArray.size_extract]; omega
        rw [← hF] at hq
        clear hF hQ
        by_cases f0 : F = 0
        · subst f0
          go_wp2_with (go_at_call 52; refine (hf _).mono ?_; rintro e w' ⟨rfl, rfl⟩)
          rw [Exit.noGoto_ret]
          go_ret3
          exact ⟨by rw [hq.out, hS.out]; rfl, hb⟩
        · have f0' : ((F : Int) == 0) = false := by rw [beq_eq_false_iff_ne]; omega
          have hq2 : Hid (q = .error F) := hq.out.trans (if_neg f0)
          clear hq f0
          go_wp2_with (go_at_call 52; refine (hf _).mono ?_; rintro e w' ⟨rfl, rfl⟩)
          rw [Exit.noGoto_ret]
          go_ret3
          exact ⟨by rw [hq2.out]; rfl, hb⟩
      · have b34 : ((t[j].toNat : Int) == 34) = false := by
          rw [beq_eq_false_iff_ne]; intro e; exact c34 (UInt8.toNat.inj (by simp; omega))
        by_cases c92 : t[j] = 92
        · have b92 : ((t[j].toNat : Int) == 92) = true := by rw [c92]; rfl
          obtain ⟨F, hF⟩ : ∃ F, F = fol (l.drop (j + 1)) [34, 92] := ⟨_, rfl⟩
          obtain ⟨sx, hx⟩ : ∃ sx, t.extract (j + 1) t.size = sx := ⟨_, rfl⟩
          have hf := follows_l sx ⟨#[34, 92]⟩ _ _ (by rw [← hx, HX.out]) rfl F hF
          by_cases hlt2 : j + 1 < t.size
          · have hq : Hid (q = if F = 0 then qd (l.drop (j + 2)) (acc ++ [t[j + 1]]) else .error F) := by
              show _ = _
              rw [hF, hQ.out, HD.out j hlt, c92, HD.out (j + 1) hlt2, qd_92]
            have hP : Hid (F = 0 → prn t[j + 1] = true) := by
              intro h
              rw [hF, HD.out (j + 1) hlt2] at h
              simp only [fol] at h
              revert h
              cases prn t[j + 1] <;> simp
            have k1 : (j : Int) + 1 < (t.size : Int) := by omega
            have k0 : (0 : Int) ≤ (j : Int) + 1 := by omega
            have kt : ((j : Int) + 1).toNat = j + 1 := by omega
            have w2 : wrap64 ((j : Int) + 1 + 1) = (j : Int) + 1 + 1 := by unfold wrap64; omega
            clear hF hQ
            by_cases f0 : F = 0
            · subst f0
              have hp := prn_any t[j + 1]
              rw [hP.out rfl] at hp
              have hq2 : Hid (q = qd (l.drop (j + 2)) (acc ++ [t[j + 1]])) := hq.out.trans (if_pos rfl)
              clear hq
              go_wp2_with (first
                | (go_at_call 52; refine (hf _).mono ?_; rintro e w' ⟨rfl, rfl⟩)
                | (go_at_call 45; refine (hp _).mono ?_; rintro e w' ⟨rfl, rfl⟩)
                | (at_builtin; refine append_b1 rfl (.tmp 34) (.tmp 38) rfl w.heap.size _ acc rfl (hO.alloc _) t[j + 1] _ rfl rfl (by omega) hb.size hb ?_; intro v' w3 hO3 hb3))
              go_roundw
              case rel => exact ⟨j + 2, acc ++ [t[j + 1]], by omega, by omega, by go_num, by simp; omega, hq2, hO3, hb3⟩
              case measure => simp [intOf]; omega
            · have f0' : ((F : Int) == 0) = false := by rw [beq_eq_false_iff_ne]; omega
              have hq2 : Hid (q = .error F) := hq.out.trans (if_neg f0)
              clear hq f0
              go_wp2_with (go_at_call 52; refine (hf _).mono ?_; rintro e w' ⟨rfl, rfl⟩)
              rw [Exit.noGoto_ret]
              go_ret3
              exact ⟨by rw [hq2.out]; rfl, hb⟩
          · have hq : Hid (q = .error 80) := by
              show _ = _
              rw [hQ.out, HD.out j hlt, c92, HE.out (j + 1) (by omega), qd_92e]
            obtain rfl : F = 80 := by rw [hF, HE.out (j + 1) (by omega)]; rfl
            have k0 : (0 : Int) ≤ (j : Int) + 1 := by omega
            have kt : ((j : Int) + 1).toNat = j + 1 := by omega
            have k2 : (j : Int) + 1 ≤ (t.size : Int) := by omega
            clear hF hQ
            go_wp2_with (go_at_call 52; refine (hf _).mono ?_; rintro e w' ⟨rfl, rfl⟩)
            rw [Exit.noGoto_ret]
            go_ret3
            exact ⟨by rw [hq.out]; rfl, hb⟩
        · have b92 : ((t[j].toNat : Int) == 92) = false := by
            rw [beq_eq_false_iff_ne]; intro e; exact c92 (UInt8.toNat.inj (by simp; omega))
          have hq : Hid (q = if prn t[j] then qd (l.drop (j + 1)) (acc ++ [t[j]]) else .error 81) := by
            show _ = _
            rw [hQ.out, HD.out j hlt, qd_c _ _ _ c34 c92]
          have hp := prn_any t[j]
          clear hQ
          cases hpp : prn t[j]
          · rw [hpp] at hq hp
            go_wp2_with (go_at_call 45; refine (hp _).mono ?_; rintro e w' ⟨rfl, rfl⟩)
            rw [Exit.noGoto_ret]
            go_ret3
            exact ⟨by rw [hq.out]; rfl, hb⟩
          · rw [hpp] at hq hp
            go_wp2_with (first
                | (go_at_call 45; refine (hp _).mono ?_; rintro e w' ⟨rfl, rfl⟩)
                | (at_builtin; refine append_b1 rfl (.tmp 34) (.tmp 38) rfl w.heap.size _ acc rfl (hO.alloc _) t[j] _ rfl rfl (by omega) hb.size hb ?_; intro v' w3 hO3 hb3))
            go_roundw
            case rel => exact ⟨j + 1, acc ++ [t[j]], by omega, by omega, by go_num, by simp; omega, hq.out.trans (if_pos trivial), hO3, hb3⟩
            case measure => simp [intOf]; omega
    · obtain rfl : t.size = j := by omega
      have hq : Hid (q = .error 80) := by show _ = _; rw [hQ.out, HE.out _ (Nat.le_refl _)]; rfl
      clear hQ
      go_wp2
      rw [Exit.noGoto_ret]
      go_ret3
      exact ⟨by rw [hq.out]; rfl, hb⟩
end Go.Proofs.YtldpocbnkggnnaaDoor
