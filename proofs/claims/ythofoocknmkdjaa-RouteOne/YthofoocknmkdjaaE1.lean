/-
  What every act on the table keeps: of a pair at most one route is selected; no more than there is room for.
-/
import Derived.Test.YthofoocknmkdjaaD2
namespace Go.Proofs.Ythofoocknmkdjaa
open Go.RowKit Go.Maps Go.Shelf
set_option linter.unusedSimpArgs false
set_option linter.unusedVariables false
set_option maxRecDepth 20000
def OneK (L : List Ro) : Prop := ∀ m ∈ L, ∀ n ∈ L, m.s = true → n.s = true → m.p = n.p → m.k = n.k
theorem OneK.one {L : List Ro} (h : OneK L) (hnd : (L.map keyN).Nodup) : OneS L := fun m hm n hn a b c => nd_inj hnd hm hn (by unfold keyN; rw [h m hm n hn a b c])
theorem OneK.of {L L' : List Ro} (h : OneK L) (hm : ∀ x ∈ L', x.s = true → ∃ y ∈ L, y.k = x.k ∧ y.s = true) : OneK L' := by
  intro m hm1 n hn1 a b c
  obtain ⟨m', hm', e1, s1⟩ := hm m hm1 a
  obtain ⟨n', hn', e2, s2⟩ := hm n hn1 b
  rw [← e1, ← e2]
  refine h m' hm' n' hn' s1 s2 ?_
  have p1 : m'.p = m.p := by rw [show m'.p = m'.k.p from rfl, e1]; rfl
  have p2 : n'.p = n.p := by rw [show n'.p = n'.k.p from rfl, e2]; rfl
  rw [p1, p2, c]
theorem OneK.mapR {L : List Ro} (h : OneK L) (f : Ro → Ro) (so : Ro → Bool) (hk : ∀ n, (f n).k = n.k) (hs : ∀ n, (f n).s = true → n.s = true) : OneK (Go.Proofs.Ythofoocknmkdjaa.mapR f so L) := by
  refine h.of fun x hx a => ?_
  obtain ⟨m, hm, rfl⟩ := List.mem_map.1 hx
  refine ⟨m, hm, ?_, ?_⟩
  · split
    · exact (hk m).symm
    · rfl
  · split at a
    · exact hs m a
    · exact a
theorem OneK.filter {L : List Ro} (h : OneK L) (q : Ro → Bool) : OneK (L.filter q) := h.of fun x hx a => ⟨x, (List.mem_filter.1 hx).1, rfl, a⟩
theorem retold_s (old n : Ro) (now : Int) : (retold old now n).s = old.s := by
  unfold retold
  split <;> rfl
theorem OneK.tell {L : List Ro} (h : OneK L) (most now : Int) (n : Ro) (f : Bool) : OneK (tellR most L now n f).2.2 := by
  unfold tellR
  split
  · exact h
  · cases hg : getN L n.k with
    | none =>
      dsimp only
      unfold tellNewR
      split
      · exact h
      · split
        · exact h
        · refine h.of fun x hx a => ?_
          rcases mem_putN.1 hx with e | e
          · rw [e] at a; cases a
          · exact ⟨x, e.1, rfl, a⟩
    | some old =>
      dsimp only
      split
      · exact h
      · refine h.of fun x hx a => ?_
        rcases mem_putN.1 hx with e | e
        · have ho := (getN_some hg).1
          refine ⟨old, ho, by rw [e, retold_k], ?_⟩
          rw [e, retold_s] at a
          exact a
        · exact ⟨x, e.1, rfl, a⟩
theorem tell_room {L : List Ro} {most : Int} (hl : (L.length : Int) ≤ most) (now : Int) (n : Ro) (f : Bool) : ((tellR most L now n f).2.2.length : Int) ≤ most := by
  unfold tellR
  split
  · exact hl
  · cases hg : getN L n.k with
    | none =>
      dsimp only
      unfold tellNewR
      split
      · exact hl
      · split
        · exact hl
        · rename_i hh
          have : (putN L (madeN n now)).length ≤ L.length + 1 := putN_le
          show ((putN L (madeN n now)).length : Int) ≤ most
          omega
    | some old =>
      dsimp only
      split
      · exact hl
      · have hk := (getN_some hg).2
        have e : (putN L (retold old now n)).length = L.length := putN_in (by rw [retold_k, hk, hg]; rfl)
        show ((putN L (retold old now n)).length : Int) ≤ most
        rw [e]
        exact hl
theorem OneK.sel {L : List Ro} (h : OneK L) (k : Ky) : OneK (selR L k).2 := by
  unfold selR
  cases hg : getN L k with
  | none => exact h
  | some r =>
    have hu : OneK (unR k.p L) := h.mapR offN (selB k.p) (fun _ => rfl) (fun n a => by cases a)
    have hk := (getN_some hg).2
    have hp : (onN r).p = k.p := by rw [show (onN r).p = r.k.p from rfl, hk]
    intro m hm n hn a b c
    rcases mem_putN.1 hm with e1 | ⟨e1, _⟩
    · rcases mem_putN.1 hn with e2 | ⟨e2, _⟩
      · rw [e1, e2]
      · exfalso
        have := unR_off n e2
        rw [selB_iff.2 ⟨b, by rw [← c, e1, hp]⟩] at this
        cases this
    · rcases mem_putN.1 hn with e2 | ⟨e2, _⟩
      · exfalso
        have := unR_off m e1
        rw [selB_iff.2 ⟨a, by rw [c, e2, hp]⟩] at this
        cases this
      · exact hu m e1 n e2 a b c
theorem sel_room {L : List Ro} (k : Ky) : (selR L k).2.length = L.length := by
  unfold selR
  cases hg : getN L k with
  | none => rfl
  | some r =>
    obtain ⟨hr, hk⟩ := getN_some hg
    show (putN (unR k.p L) (onN r)).length = _
    rw [putN_len, if_pos]
    · unfold unR; rw [mapR_len]
    · rw [List.any_eq_true]
      refine ⟨_, List.mem_map.2 ⟨r, hr, rfl⟩, ?_⟩
      rw [keyB_iff]
      split <;> rfl
theorem OneK.un {L : List Ro} (h : OneK L) (ps : List Pr) : OneK (unL ps L).1 := by
  have : ∀ (ps : List Pr) (x : List Ro × Int), OneK x.1 → OneK (ps.foldl unS x).1 := by
    intro ps
    induction ps with
    | nil => intro x h; exact h
    | cons p ps ih => intro x h; exact ih _ (h.mapR offN (selB p) (fun _ => rfl) (fun n a => by cases a))
  exact this ps (L, 0) h
theorem un_room (ps : List Pr) (L : List Ro) : (unL ps L).1.length = L.length := by
  have : ∀ (ps : List Pr) (x : List Ro × Int), (ps.foldl unS x).1.length = x.1.length := by
    intro ps
    induction ps with
    | nil => intro x; rfl
    | cons p ps ih => intro x; rw [List.foldl_cons, ih]; show (unR p x.1).length = _; unfold unR; rw [mapR_len]
  exact this ps (L, 0)
theorem tickS_sub {now : Int} {L : List Ro} {n x : Ro} (hx : x ∈ tickS now L n) : x ∈ L ∨ x = expN n := by
  have h1 : ∀ x, x ∈ (if n.r = 65535 then L else putN L (expN n)) → x ∈ L ∨ x = expN n := fun x h => by
    split at h
    · exact .inl h
    · rcases mem_putN.1 h with e | e
      · exact .inr e
      · exact .inl e.1
  unfold tickS at hx
  split at hx
  · exact h1 x (List.mem_filter.1 hx).1
  · exact h1 x hx
theorem tickR_sub {now : Int} {x : Ro} : ∀ {K L : List Ro}, x ∈ tickR now L K → x ∈ L ∨ ∃ n ∈ K, x = expN n
  | [], L, hx => .inl hx
  | n :: K, L, hx => by
    rcases tickR_sub (K := K) (L := tickS now L n) hx with e | ⟨m, hm, e⟩
    · rcases tickS_sub e with e | e
      · exact .inl e
      · exact .inr ⟨n, List.mem_cons_self .., e⟩
    · exact .inr ⟨m, List.mem_cons_of_mem _ hm, e⟩
theorem expN_s (n : Ro) : (expN n).s = n.s := by
  unfold expN
  split <;> rfl
theorem OneK.tick {L K : List Ro} (h : OneK L) (hK : ∀ n ∈ K, n ∈ L) (now : Int) : OneK (tickR now L K) := by
  refine h.of fun x hx a => ?_
  rcases tickR_sub hx with e | ⟨n, hn, e⟩
  · exact ⟨x, e, rfl, a⟩
  · refine ⟨n, hK n hn, by rw [e, expN_k], ?_⟩
    rw [e, expN_s] at a
    exact a
theorem tick_room {now : Int} {L K : List Ro} (hnd : (L.map keyN).Nodup) (hK : ∀ n ∈ K, n ∈ L) (hk : (K.map keyN).Nodup) : ∀ j, j ≤ K.length → (tickR now L (K.take j)).length ≤ L.length
  | 0, _ => by simp [tickR]
  | j + 1, hj => by
    have ih := tick_room (now := now) hnd hK hk j (by omega)
    have ha := tick_has (now := now) hnd hK hk (j := j) (by omega)
    rw [tickR_take (by omega)]
    have hp : (if K[j].r = 65535 then tickR now L (K.take j) else putN (tickR now L (K.take j)) (expN K[j])).length ≤ L.length := by
      split
      · exact ih
      · rw [putN_len, if_pos (by rw [expN_k]; exact ha)]
        exact ih
    unfold tickS
    split
    · exact Nat.le_trans (List.length_filter_le _ _) hp
    · exact hp
/-- The table, some routes in it of which this is known. -/
def InvT (w : World) (t mb : Nat) (most : Int) : Prop := ∃ L, Tb w t mb most L ∧ OneK L ∧ (L.length : Int) ≤ most
theorem InvT.below {w w' : World} {t mb : Nat} {most : Int} (h : InvT w t mb most) (hb : Below w.heap.size w w') : InvT w' t mb most := by
  obtain ⟨L, h1, h2, h3⟩ := h
  exact ⟨L, h1.below hb, h2, h3⟩
theorem InvT.lt {w : World} {t mb : Nat} {most : Int} (h : InvT w t mb most) : t < w.heap.size ∧ mb < w.heap.size := by
  obtain ⟨L, h1, _⟩ := h
  exact ⟨h1.lt, h1.map.lt⟩
/-- Another block of the call's own is written. -/
theorem InvT.other {w w' : World} {t mb g : Nat} {most : Int} (h : InvT w t mb most) (hg : w.grownBy w' (some g)) (h1 : g ≠ t) (h2 : g ≠ mb) : InvT w' t mb most := by
  obtain ⟨L, k, k2, k3⟩ := h
  exact ⟨L, ⟨k.row.keep hg (Ne.symm h1), k.map.keep hg (Ne.symm h2), k.nok, k.ll⟩, k2, k3⟩
/-- What an act on the table leaves. -/
def ActI (w : World) (t mb : Nat) (most : Int) (w' : World) : Prop := InvT w' t mb most ∧ w.grownBy w' (some mb)
theorem tellI {w : World} {t mb : Nat} {most : Int} (h : InvT w t mb most) (n : Ro) (now : Int) (f : Bool) (ha : 0 ≤ now) (hb : now ≤ 17592186044416) (hi : wfK n.k) (hf : n.fit) (hm : most ≤ 150) :
    Calls Try.prog 26 #[.pointer (some ⟨t, 0, none⟩), .int .i64 now, rV n, .bool f] w fun e w' => ∃ a b, e = .returned (.tuple #[.int .i64 a, .int .i64 b]) ∧ ActI w t mb most w' := by
  obtain ⟨L, h1, h2, h3⟩ := h
  refine (tell_any h1 n now f ha hb hi hf (by omega)).mono ?_
  rintro e w' ⟨rfl, hT⟩
  exact ⟨_, _, rfl, ⟨_, hT.tb, h2.tell _ _ _ _, tell_room h3 _ _ _⟩, hT.gr⟩
theorem retractI {w : World} {t mb : Nat} {most : Int} (h : InvT w t mb most) (now i : Int) (a : Ad) (ha : 0 ≤ now) (hb : now ≤ 17592186044416) :
    Calls Try.prog 27 #[.pointer (some ⟨t, 0, none⟩), .int .i64 now, .int .i64 i, (Value.agg (acells a).toArray)] w fun e w' => ∃ z, e = .returned (.int .i64 z) ∧ ActI w t mb most w' := by
  obtain ⟨L, h1, h2, h3⟩ := h
  refine (retract_any h1 now i a ha hb).mono ?_
  rintro e w' ⟨rfl, hT⟩
  exact ⟨_, rfl, ⟨_, hT.tb, h2.mapR _ _ (fun _ => rfl) (fun _ a => a), by rw [mapR_len]; exact h3⟩, hT.gr⟩
theorem reckonI {w : World} {t mb : Nat} {most : Int} (h : InvT w t mb most) :
    Calls Try.prog 29 #[.pointer (some ⟨t, 0, none⟩), .func (.func 31) #[] #[]] w fun e w' => ∃ a n c, e = .returned (.slice a n c) ∧ ActI w t mb most w' := by
  obtain ⟨L, h1, h2, h3⟩ := h
  refine (reckonP_any h1).mono ?_
  rintro e w' ⟨a, c, K, rfl, _, _, _, hT⟩
  exact ⟨_, _, _, rfl, ⟨_, hT.tb, h2.mapR _ _ (fun _ => rfl) (fun _ a => a), by rw [mapR_len]; exact h3⟩, hT.gr⟩
theorem selectI {w : World} {t mb : Nat} {most : Int} (h : InvT w t mb most) (k : Ky) (hi : wfK k) :
    Calls Try.prog 32 #[.pointer (some ⟨t, 0, none⟩), (Value.agg (qcells k.p).toArray), .int .i64 k.i, (Value.agg (acells k.a).toArray)] w fun e w' => ∃ z, e = .returned (.int .i64 z) ∧ ActI w t mb most w' := by
  obtain ⟨L, h1, h2, h3⟩ := h
  refine (select_any h1 (h2.one h1.map.nd) k hi).mono ?_
  rintro e w' ⟨rfl, hT⟩
  exact ⟨_, rfl, ⟨_, hT.tb, h2.sel k, by rw [sel_room]; exact h3⟩, hT.gr⟩
theorem unselectI {w : World} {t mb : Nat} {most : Int} (h : InvT w t mb most) (ad : Option Addr) (n c : Nat) (ps : List Pr) (hn : ps.length = n) (hps : PsW w ad ps) (hl : ps.length ≤ 100) :
    Calls Try.prog 33 #[.pointer (some ⟨t, 0, none⟩), .slice ad n c] w fun e w' => ∃ z, e = .returned (.int .i64 z) ∧ ActI w t mb most w' := by
  subst hn
  obtain ⟨L, h1, h2, h3⟩ := h
  refine (unselect_any h1 (h2.one h1.map.nd) ad c ps hps hl).mono ?_
  rintro e w' ⟨rfl, hT⟩
  exact ⟨_, rfl, ⟨_, hT.tb, h2.un ps, by rw [un_room]; exact h3⟩, hT.gr⟩
theorem tickI {w : World} {t mb : Nat} {most : Int} (h : InvT w t mb most) (now : Int) (ha : 0 ≤ now) (hb : now ≤ 17592186044416) :
    Calls Try.prog 28 #[.pointer (some ⟨t, 0, none⟩), .int .i64 now] w fun e w' => ∃ a n c a' n' c', e = .returned (.tuple #[.slice a n c, .slice a' n' c']) ∧ ActI w t mb most w' := by
  obtain ⟨L, h1, h2, h3⟩ := h
  refine (tick_any h1 now ha hb).mono ?_
  rintro e w' ⟨a1, c1, a2, c2, K, hp, _, rfl, hT, _⟩
  have hK : ∀ n ∈ K, n ∈ L := fun n hn => (List.mem_filter.1 (hp.mem_iff.1 hn)).1
  have hk : (K.map keyN).Nodup := ((hp.map keyN).nodup_iff).2 (List.Nodup.sublist (List.Sublist.map _ List.filter_sublist) h1.map.nd)
  have hr := tick_room (now := now) h1.map.nd hK hk K.length (Nat.le_refl _)
  rw [List.take_length] at hr
  exact ⟨_, _, _, _, _, _, rfl, ⟨_, hT.tb, h2.tick hK now, by omega⟩, hT.gr⟩
theorem dropI {w : World} {t mb : Nat} {most : Int} (h : InvT w t mb most) (i : Int) (ad : Option Addr) (n c : Nat) (ds : List Ad) (hn : ds.length = n) (hds : DsW w ad ds) (hl : ds.length ≤ 1000000) :
    Calls Try.prog 34 #[.pointer (some ⟨t, 0, none⟩), .int .i64 i, .slice ad n c] w fun e w' => ∃ a n c, e = .returned (.slice a n c) ∧ ActI w t mb most w' := by
  subst hn
  obtain ⟨L, h1, h2, h3⟩ := h
  refine (drop_any h1 i ad c ds hds hl).mono ?_
  rintro e w' ⟨a, c', K, rfl, _, _, _, hT⟩
  exact ⟨_, _, _, rfl, ⟨_, hT.tb, h2.filter _, by have := List.length_filter_le (fun m => !dropB i ds m) L; omega⟩, hT.gr⟩
end Go.Proofs.Ythofoocknmkdjaa
