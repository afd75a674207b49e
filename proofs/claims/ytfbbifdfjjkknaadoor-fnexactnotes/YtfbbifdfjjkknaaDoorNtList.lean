/-
  Lists of notes, each with its list of entries: how they lie, what the laws' eq, mark and held functions of them do; lists that grow record by record. No condition but that there are at most 1048576.
-/
import Derived.Test.YtfbbifdfjjkknaaDoorRNt
import Derived.Test.YtfbbifdfjjkknaaDoorNtV
import Derived.Test.YtfbbifdfjjkknaaDoorLogM
namespace Go.Proofs.YtfbbifdfjjkknaaDoor.Gen
open Go.ChangeShapes Go.WideShapes Go.ChangeAt Go.RowKit Go.Joins Go.Deep Base
set_option linter.unusedVariables false
set_option linter.unusedSimpArgs false

theorem owns_sub {α : Type} [Cel α] {B : Nat} {W : World} {t : TypeId} {a : Option Addr} {c : Nat} {xs : List α} (h : W.ownsRow B t (Cel.k α) (.slice a xs.length c) xs.length (flat xs)) : Sub W a xs (fun b => B ≤ b ∧ b < W.heap.size) := by
  obtain ⟨a', c', e, _, hs⟩ := fresh_owns h
  cases e
  exact hs.imp id fun ⟨b, o, e, hB, hb, hi, ht⟩ => ⟨b, o, e, ⟨hB, hb⟩, hb, hi, ht⟩

/-- A list that grows record by record, each with what lies with it; all that was there stays. -/
structure GO {α : Type} [Cel α] (P : World → α → (Nat → Prop) → Prop) (t : TypeId) (w W : World) (v : Value) (xs : List α) : Prop where
  bl : Below w.heap.size w W
  own : W.ownsRow w.heap.size t (Cel.k α) v xs.length (flat xs)
  fps : ∃ fp : Nat → Nat → Prop, (∀ (i : Nat) (h : i < xs.length), P W xs[i] (fp i)) ∧ (∀ i j, i ≠ j → ∀ x, fp i x → ¬ fp j x) ∧ ∀ i x, fp i x → i < xs.length ∧ w.heap.size ≤ x ∧ x < W.heap.size ∧ v.ownBlock ≠ some x
theorem GO.start {α : Type} [Cel α] {P : World → α → (Nat → Prop) → Prop} {t : TypeId} {w W : World} {v : Value} (h : Below w.heap.size w W) (ho : W.ownsRow w.heap.size t (Cel.k α) v 0 []) : GO (α := α) P t w W v [] :=
  ⟨h, ho, fun _ _ => False, fun i h => by simp at h, fun _ _ _ _ h => h.elim, fun _ _ h => h.elim⟩
theorem GO.below {α : Type} [Cel α] {P : World → α → (Nat → Prop) → Prop} (hP : Firm P) {t : TypeId} {w W W1 : World} {v : Value} {xs : List α} (h : GO P t w W v xs) (g : Below W.heap.size W W1) : GO P t w W1 v xs := by
  obtain ⟨h1, h2, fp, f1, f2, f3⟩ := h
  exact ⟨via0 g h1, owns_below h2 g, fp, fun i hi => hP _ _ _ _ _ (f1 i hi) (Offp.of_below (S := fun _ => False) g) (fun _ _ e => e), f2, fun i x hx => ⟨(f3 i x hx).1, (f3 i x hx).2.1, Nat.lt_of_lt_of_le (f3 i x hx).2.2.1 g.size, (f3 i x hx).2.2.2⟩⟩
theorem GO.app {α : Type} [Cel α] {P : World → α → (Nat → Prop) → Prop} (hP : Firm P) {pg : Program} {ts t : TypeId} {z : Value} {bytes : Nat} (hu : pg.underlying ts = some (.slice t)) (hinfo : (pg.info? t).map (fun i => (i.zero, i.size, i.bytes)) = some (some z, Cel.k α, bytes)) (hz : z.cells.size = Cel.k α) (hk : 0 < Cel.k α) (hby : bytes ≤ 1000)
    {w W W1 : World} {a : Option Addr} {cp : Nat} {xs : List α} (h : GO P t w W (.slice a xs.length cp) xs) (g : Below W.heap.size W W1) (x : α) {S : Nat → Prop} (hy : P W1 x S) (hS : ∀ y, S y → W.heap.size ≤ y ∧ y < W1.heap.size) (cs : Array Value) (hcs : cs.toList = Cel.cs x) (hx : xs.length ≤ 2000000) :
    ∃ a2 c2 W2, (Builtin.append_ #[ts, ts] ts #[.slice a xs.length cp, .slice (some ⟨W1.heap.size, 0, none⟩) 1 1]).run pg (W1.alloc (.cells cs t)) = .ok (.slice a2 (xs.length + 1) c2) W2 ∧ GO P t w W2 (.slice a2 (xs.length + 1) c2) (xs ++ [x]) ∧ (∀ k t' vs, W.heap.size ≤ k → Blk W1 k t' vs → Blk W2 k t' vs) := by
  obtain ⟨hbl, own0, fp, f1, f2, f3⟩ := h
  have hw1 : w.heap.size ≤ W1.heap.size := Nat.le_trans hbl.size g.size
  have own1 := owns_alloc (owns_below own0 g) (.cells cs t)
  have hX : At (W1.alloc (.cells cs t)) (some ⟨W1.heap.size, 0, none⟩) [x] := by
    refine .inr ⟨_, 0, rfl, by simp, fun j u hu => ?_⟩
    rw [flat_one, ← hcs] at hu
    rw [Nat.zero_add]
    exact (Blk.new W1 t cs).cell (by simpa using hu)
  obtain ⟨v', W2, hr, hown, hgrow, hob⟩ := append_els (P := pg) hu hinfo hz hk hby w.heap.size (.slice a xs.length cp) xs [x] (some ⟨W1.heap.size, 0, none⟩) 1 _ (by simp; omega) own1 hX (by simp; omega)
  simp only [List.length_cons, List.length_nil, Nat.zero_add] at hown hr
  obtain ⟨a2, c2, rfl, _⟩ := owns_form hown
  have ko := offp_grown hgrow
  have hs2 : W1.heap.size + 1 ≤ W2.heap.size := by have := ko.size; simpa using this
  have os := g.size
  have hS' : ∀ y, (Value.slice a xs.length cp).ownBlock = some y → w.heap.size ≤ y ∧ y < W.heap.size := fun y hy => own0.lt y hy
  have kb : Offp (fun _ => False) W1 (W1.alloc (.cells cs t)) := Offp.of_below (alloc0 (Below.refl _ _) _)
  have kg : Offp (fun _ => False) W W1 := Offp.of_below g
  have bA : Below w.heap.size w (W1.alloc (.cells cs t)) := alloc0 (via0 g hbl) _
  refine ⟨a2, c2, W2, hr, ⟨bA.trans (ko.toBelow (fun y e => (hS' y e).1) bA.size), owns_n (by simp) hown, fun i => if i = xs.length then S else fp i, ?_, ?_, ?_⟩, ?_⟩
  · intro i hi
    by_cases e : i = xs.length
    · subst e
      simp only [if_true]
      rw [List.getElem_append_right (Nat.le_refl _)]
      simp only [Nat.sub_self, List.getElem_cons_zero]
      exact hP _ _ _ _ _ (hP _ _ _ _ _ hy kb (fun _ _ e => e)) ko (fun y hy e => by have := (hS y hy).1; have := (hS' y e).2; omega)
    · have hi' : i < xs.length := by simp at hi; omega
      simp only [if_neg e]
      rw [List.getElem_append_left hi']
      exact hP _ _ _ _ _ (hP _ _ _ _ _ (hP _ _ _ _ _ (f1 i hi') kg (fun _ _ e => e)) kb (fun _ _ e => e)) ko (fun y hy e => (f3 i y hy).2.2.2 e)
  · intro i j hij y hy' hy2
    by_cases e1 : i = xs.length
    · by_cases e2 : j = xs.length
      · omega
      · simp only [if_pos e1] at hy'
        simp only [if_neg e2] at hy2
        have := (hS y hy').1
        have := (f3 j y hy2).2.2.1
        omega
    · by_cases e2 : j = xs.length
      · simp only [if_neg e1] at hy'
        simp only [if_pos e2] at hy2
        have := (hS y hy2).1
        have := (f3 i y hy').2.2.1
        omega
      · simp only [if_neg e1] at hy'
        simp only [if_neg e2] at hy2
        exact f2 i j hij y hy' hy2
  · intro i y hy'
    have hob' : ∀ y, (Value.slice a xs.length cp).ownBlock ≠ some y → y < W1.heap.size → (Value.slice a2 (xs.length + 1) c2).ownBlock ≠ some y := by
      intro y hn hlt e
      rcases hob with h' | h'
      · exact hn (h' ▸ e)
      · rw [h'] at e
        simp only [World.size_alloc, Option.some.injEq] at e
        omega
    by_cases e1 : i = xs.length
    · simp only [if_pos e1] at hy'
      have hh := hS y hy'
      have hws := hbl.size
      exact ⟨by simp; omega, by omega, by omega, hob' y (fun e => by have := (hS' y e).2; omega) hh.2⟩
    · simp only [if_neg e1] at hy'
      have hh := f3 i y hy'
      exact ⟨by simp; omega, hh.2.1, by omega, hob' y hh.2.2.2 (by omega)⟩
  · intro k t' vs hk hb
    have hb2 : Blk (W1.alloc (.cells cs t)) k t' vs := hb.alloc _
    exact hb2.offp ko (fun e => by have := (hS' k e).2; omega)
theorem GO.toOwn {α : Type} [Cel α] {P : World → α → (Nat → Prop) → Prop} {t : TypeId} {w W : World} {a : Option Addr} {cp : Nat} {xs : List α} (h : GO P t w W (.slice a xs.length cp) xs) : Own P W a xs (fun b => w.heap.size ≤ b ∧ b < W.heap.size) := by
  obtain ⟨_, hown, fp, f1, f2, f3⟩ := h
  rcases owns_sub hown with e | ⟨b, o, e, hb, hlt, hi, ht⟩
  · exact .inl e
  · refine .inr ⟨b, o, fp, e, hb, fun i x hx => ⟨(f3 i x hx).2.1, (f3 i x hx).2.2.1⟩, ⟨hlt, hi, ht, f1, f2, fun i hx => (f3 i b hx).2.2.2 ?_⟩⟩
    rw [e]
    rfl

/-- A note as it lies in a list: its entries lie elsewhere. -/
structure NC where
  kind : Int
  term : Int
  vote : Int
  prev : Int
  A : Option Addr
  cap : Nat
  l : List En
  snap : ByteArray
instance : Inhabited NC := ⟨⟨0, 0, 0, 0, none, 0, [], ⟨#[]⟩⟩⟩
instance : Cel NC where
  k := 6
  cs x := [Value.int .i64 x.kind, Value.int .i64 x.term, Value.int .i64 x.vote, Value.int .i64 x.prev, Value.slice x.A x.l.length x.cap, Value.string x.snap]
  len _ := rfl
  one x u hu := by simp at hu; rcases hu with rfl | rfl | rfl | rfl | rfl | rfl <;> rfl
def NC.p (x : NC) : Nt := ⟨x.kind, x.term, x.vote, x.prev, x.l, x.snap⟩
def EachN (w : World) (l : List NC) : Prop := ∀ x ∈ l, At w x.A x.l
theorem EachN.below {w w' : World} {l : List NC} (h : EachN w l) (hw : Below w.heap.size w w') : EachN w' l := fun x hx => (h x hx).below hw
def noteP (w : World) (x : NC) (S : Nat → Prop) : Prop := Sub w x.A x.l S
theorem noteP_firm : Firm noteP := fun w w' x S T h k hd => Sub.offp h k hd
theorem noteP_each {S : Nat → Prop} {w : World} {a : Option Addr} {l : List NC} (h : Own noteP w a l S) : EachN w l := h.each (fun x S hx => Sub.at hx)
theorem In.getNC {w : World} {b o : Nat} {l : List NC} (h : In w b o l) (i : Nat) (hi : i < l.length) :
    w.cell? ⟨b, o + i * 6, none⟩ = some (Value.int .i64 l[i].kind) ∧ w.cell? ⟨b, o + i * 6 + 1, none⟩ = some (Value.int .i64 l[i].term) ∧ w.cell? ⟨b, o + i * 6 + 2, none⟩ = some (Value.int .i64 l[i].vote) ∧ w.cell? ⟨b, o + i * 6 + 3, none⟩ = some (Value.int .i64 l[i].prev) ∧ w.cell? ⟨b, o + i * 6 + 4, none⟩ = some (Value.slice l[i].A l[i].l.length l[i].cap) ∧ w.cell? ⟨b, o + i * 6 + 5, none⟩ = some (Value.string l[i].snap) :=
  ⟨h.cell i hi (f := 0) rfl, h.cell i hi (f := 1) rfl, h.cell i hi (f := 2) rfl, h.cell i hi (f := 3) rfl, h.cell i hi (f := 4) rfl, h.cell i hi (f := 5) rfl⟩
theorem infoNC : (Tryd.prog.info? 34).map (fun i => (i.zero, i.size, i.bytes)) = some (some (.agg #[.int .i64 0, .int .i64 0, .int .i64 0, .int .i64 0, .slice none 0 0, .string ⟨#[]⟩]), 6, 72) := by kernel_rfl

set_option maxRecDepth 100000 in
set_option maxHeartbeats 1000000 in
theorem eqNoteS_same (A A' : Option Addr) (cap cap' : Nat) (l l' : List NC) (hl : l.length ≤ 9223372036854775807) (hr : ∀ x ∈ l, x.l.length ≤ 9223372036854775807) (hsame : l'.map NC.p = l.map NC.p) (w : World) (hA : At w A l) (hE : EachN w l) (hA' : At w A' l') (hE' : EachN w l') :
    Calls Tryd.prog 7 #[.slice A l.length cap, .slice A' l.length cap'] w fun e w' => e = .returned (.bool true) ∧ Below w.heap.size w w' := by
  have HA := hidP hA
  have HE := hidP hE
  have HA' := hidP hA'
  have HE' := hidP hE'
  have Hr := hidP hr
  have HS := hidP hsame
  have HLL : Hid (l'.length = l.length) := by have := congrArg List.length hsame; show _ = _; simpa using this
  clear hA hE hA' hE' hr hsame
  go_enter Tryd.func7, Tryd.ntmps7
  go_wp2
  go_loopw [5] (fun i w' => ∃ (n : Nat), i = .int .i64 (n : Int) ∧ n ≤ l.length ∧ Below w.heap.size w w') (fun i _ => l.length - (intOf i).toNat)
  case atStart => exact ⟨0, rfl, by omega, Below.refl _ _⟩
  case round =>
    obtain ⟨n, rfl, hn, hbl⟩ := hrel
    by_cases hlt : n < l.length
    · have hll := HLL.out
      obtain ⟨b, o, rfl, hbs, hin⟩ : ∃ b o, A = some ⟨b, o, none⟩ ∧ b < w.heap.size ∧ In w b o l := by
        rcases HA.out with h | h
        · subst h; simp at hlt
        · exact h
      obtain ⟨b', o', rfl, hbs', hin'⟩ : ∃ b o, A' = some ⟨b, o, none⟩ ∧ b < w.heap.size ∧ In w b o l' := by
        rcases HA'.out with h | h
        · subst h; simp at hll; omega
        · exact h
      have hp : (l'[n]'(by omega)).p = l[n].p := by
        have h1 : (l'.map NC.p)[n]'(by simp; omega) = (l.map NC.p)[n]'(by simpa using hlt) := by simp only [HS.out]
        simpa using h1
      obtain ⟨c0, c1, c2, c3, c4, c5⟩ := (hin.below hbs hbl).getNC n hlt
      obtain ⟨d0, d1, d2, d3, d4, d5⟩ := (hin'.below hbs' hbl).getNC n (by omega)
      have hat := HE.out _ (List.getElem_mem hlt)
      have hat' := HE'.out _ (List.getElem_mem (show n < l'.length by omega))
      have hms := Hr.out _ (List.getElem_mem hlt)
      generalize l'[n]'(by omega) = y at hp d0 d1 d2 d3 d4 d5 hat'
      generalize l[n] = x at hp c0 c1 c2 c3 c4 c5 hat hms
      obtain ⟨y0, y1, y2, y3, yA, yc, yi, ys⟩ := y
      obtain ⟨x0, x1, x2, x3, xA, xc, xi, xs⟩ := x
      simp only [NC.p, Nt.mk.injEq] at hp
      obtain ⟨rfl, rfl, rfl, rfl, rfl, rfl⟩ := hp
      simp only at c0 c1 c2 c3 c4 c5 d0 d1 d2 d3 d4 d5 hat hat' hms
      have Hat := hidP (hat.below hbl)
      have Hat' := hidP (hat'.below hbl)
      clear hat hat' hll
      have hb1 : b < wr.heap.size := Nat.lt_of_lt_of_le hbs hbl.size
      have hb2 : b' < wr.heap.size := Nat.lt_of_lt_of_le hbs' hbl.size
      have hi0 : (0 : Int) ≤ (n : Int) := by omega
      have hi1 : (n : Int) < (l.length : Int) := by omega
      go_wp2
      go_region_held3 (fun w' => w'.cell? ⟨b, o + n * 6, none⟩ = some (.int .i64 y0) ∧ w'.cell? ⟨b, o + n * 6 + 1, none⟩ = some (.int .i64 y1) ∧ w'.cell? ⟨b, o + n * 6 + 2, none⟩ = some (.int .i64 y2) ∧ w'.cell? ⟨b, o + n * 6 + 3, none⟩ = some (.int .i64 y3) ∧ w'.cell? ⟨b, o + n * 6 + 4, none⟩ = some (.slice xA yi.length xc) ∧ w'.cell? ⟨b, o + n * 6 + 5, none⟩ = some (.string ys) ∧ w'.cell? ⟨b', o' + n * 6, none⟩ = some (.int .i64 y0) ∧ w'.cell? ⟨b', o' + n * 6 + 1, none⟩ = some (.int .i64 y1) ∧ w'.cell? ⟨b', o' + n * 6 + 2, none⟩ = some (.int .i64 y2) ∧ w'.cell? ⟨b', o' + n * 6 + 3, none⟩ = some (.int .i64 y3) ∧ w'.cell? ⟨b', o' + n * 6 + 4, none⟩ = some (.slice yA yi.length yc) ∧ w'.cell? ⟨b', o' + n * 6 + 5, none⟩ = some (.string ys) ∧ wr.heap.size ≤ w'.heap.size)
        (first | (go_split_ands; refine ⟨?_, ?_, ?_, ?_, ?_, ?_, ?_, ?_, ?_, ?_, ?_, ?_, ?_⟩ <;> first | assumption | exact (k1 _ _ hb1).trans (by assumption) | exact (k1 _ _ hb2).trans (by assumption) | exact s1 | (simp; done)) | go_keep)
        (first
          | (go_at_call 15; refine (eqNote_same y0 y1 y2 y3 ys _ _ _ _ yi hms _ (Hat.out.below (Below.drew (Below.refl _ _))) (Hat'.out.below (Below.drew (Below.refl _ _)))).mono ?_; rintro e w1 ⟨rfl, g1⟩; obtain ⟨k1, m1⟩ := bcell g1; have s1 := g1.size))
      all_goals
        go_wp2
        exact ⟨⟨n + 1, by go_num, by omega, via0 g1 hbl.drew⟩, by simp [intOf]; omega⟩
    · go_wp2
      go_ret
      exact ⟨rfl, hbl⟩

def cN (x : NC) : Nat := 5 + x.l.length * 9
def mN (x : NC) (z : Int) : NC := ⟨z, z + 1, z + 2, z + 3, x.A, x.cap, marksEn x.l.length (z + 4), Items.markZ (z + 4 + (x.l.length : Int) * 9)⟩
/-- Entries marked where they lie. -/
theorem mark_ents (a : Option Addr) (cap : Nat) (l : List En) (S : Nat → Prop) (k : Int) (hk : 1 ≤ k) (hk' : k ≤ 100000000) (hl : l.length ≤ 3000000) (w : World) (h : Sub w a l S) :
    Calls Tryd.prog 16 #[.slice a l.length cap, .int .i64 k] w fun e w' => e = .returned (.int .i64 (k + (l.length : Int) * 9)) ∧ Offp S w w' ∧ Sub w' a (marksEn l.length k) S := by
  rcases h with rfl | ⟨b, o, rfl, hS, hb, hi, ht⟩
  · refine (markNone_any a cap k w).mono ?_
    rintro e w' ⟨rfl, rfl⟩
    exact ⟨by simp, Offp.refl _ _, .inl rfl⟩
  · refine (markEntryS_any b o cap l.length k hk hk' hl w hb ht).mono ?_
    rintro e w' ⟨rfl, ko, hin, hth⟩
    exact ⟨rfl, (Offp.of_only ko).mono (fun x e => e ▸ hS), .inr ⟨b, o, rfl, hS, Nat.lt_of_lt_of_le hb ko.size, hin, by rw [marksEn_length]; exact hth⟩⟩

set_option maxRecDepth 100000 in
set_option maxHeartbeats 1000000 in
theorem markNoteS_any (b o cap : Nat) (l : List NC) (fp : Nat → Nat → Prop) (k : Int) (hk : 1 ≤ k) (hk' : k ≤ 50000000) (hc : count cN l ≤ 50000000) (hl : l.length ≤ 1048576) (hs : ∀ x ∈ l, x.l.length ≤ 1048576) (w : World) (hO : OwnF noteP w b o l fp) :
    Calls Tryd.prog 10 #[.slice (some ⟨b, o, none⟩) l.length cap, .int .i64 k] w fun e w' => e = .returned (.int .i64 (k + (count cN l : Int))) ∧ Offp (fun x => x = b ∨ ∃ i, fp i x) w w' ∧ OwnF noteP w' b o (marked mN cN l k) fp := by
  have HO := hidP hO
  have Hs := hidP hs
  have Hc := hidP hc
  clear hO hs hc
  go_enter Tryd.func10, Tryd.ntmps10
  go_wp2
  go_loopw [1, 5] (fun kk i w' => ∃ (n : Nat) (z : Int), i = .int .i64 (n : Int) ∧ kk = .int .i64 z ∧ n ≤ l.length ∧ 1 ≤ z ∧ z ≤ 100000000 ∧ Hid (z = k + (count cN (l.take n) : Int)) ∧ Hid (Offp (fun x => x = b ∨ ∃ i, fp i x) w w') ∧ Hid (OwnF noteP w' b o (half mN cN l k n) fp)) (fun _ i _ => l.length - (intOf i).toNat)
  case atStart => exact ⟨0, k, rfl, rfl, by omega, hk, by omega, by simp [Hid, count], Offp.refl _ _, by rw [half_zero]; exact HO.out⟩
  case round =>
    obtain ⟨n, z, rfl, rfl, hn, hz1, hz2, hz, hoff, hown⟩ := hrel
    by_cases hlt : n < l.length
    · have hhl := half_length mN cN l k n
      have hge := half_get mN cN l k n hlt (by omega)
      have hit := Hs.out _ (List.getElem_mem hlt)
      obtain ⟨c0, c1, c2, c3, c4, c5⟩ := hown.out.lst.getNC n (by omega)
      have hth := hown.out.th
      rw [hhl] at hth
      obtain ⟨_, f0⟩ := there_at (f := 0) hth hlt (by decide)
      obtain ⟨_, f1⟩ := there_at (f := 1) hth hlt (by decide)
      obtain ⟨_, f2⟩ := there_at (f := 2) hth hlt (by decide)
      obtain ⟨_, f3⟩ := there_at (f := 3) hth hlt (by decide)
      simp only [Nat.add_zero, show Cel.k NC = 6 from rfl] at f0 f1 f2 f3
      rw [hge] at c0 c1 c2 c3 c4 c5
      have hsu := half_succ mN cN l k n hlt
      rw [← hz.out] at hsu
      have hcn : count cN (l.take n) + cN l[n] ≤ 50000000 := by rw [← count_snoc cN l n hlt]; exact Nat.le_trans (count_le cN l (n + 1)) Hc.out
      have Hsn := hidP (count_snoc cN l n hlt)
      generalize hx : l[n] = x at c0 c1 c2 c3 c4 c5 hit hsu hcn hge Hsn
      obtain ⟨k0, k1, k2, k3, xA, xc, xi, sn⟩ := x
      simp only at c0 c1 c2 c3 c4 c5 hit
      have O1 := hown.out.set1 noteP_firm n (by omega) ⟨z, k1, k2, k3, xA, xc, xi, sn⟩ 0 (by decide) (.int .i64 z) (by rw [hge]; rfl) (fun W S h => by rw [hge] at h; exact h)
      have O2 := O1.set1 noteP_firm n (by simp; omega) ⟨z, z + 1, k2, k3, xA, xc, xi, sn⟩ 1 (by decide) (.int .i64 (z + 1)) (by rw [List.getElem_set_self]; rfl) (fun W S h => by rw [List.getElem_set_self] at h; exact h)
      have O3 := O2.set1 noteP_firm n (by simp; omega) ⟨z, z + 1, z + 1 + 1, k3, xA, xc, xi, sn⟩ 2 (by decide) (.int .i64 (z + 1 + 1)) (by rw [List.getElem_set_self]; rfl) (fun W S h => by rw [List.getElem_set_self] at h; exact h)
      have O4 := O3.set1 noteP_firm n (by simp; omega) ⟨z, z + 1, z + 1 + 1, z + 1 + 1 + 1, xA, xc, xi, sn⟩ 3 (by decide) (.int .i64 (z + 1 + 1 + 1)) (by rw [List.getElem_set_self]; rfl) (fun W S h => by rw [List.getElem_set_self] at h; exact h)
      simp only [Nat.add_zero, show Cel.k NC = 6 from rfl, List.set_set] at O1 O2 O3 O4
      have Hhl := hidP hhl
      have Hsu := hidP hsu
      have Hcn := hidP hcn
      have HO4 := hidP O4
      have hsub := O4.sub n (by simp; omega)
      rw [List.getElem_set_self] at hsub
      have Hsub := hidP hsub
      have hz' := hz.out
      have hzc : z + 5 ≤ 100000000 := by
        have h3 := Hcn.out; simp only [cN] at h3; omega
      have hlim : xi.length * 9 + 5 ≤ 50000000 := by have := Hcn.out; simp only [cN] at this; omega
      clear hx hhl hsu hcn O1 O2 O3 O4 hsub hge hth hz'
      go_wp2_with fail
      refine (mark_ents xA xc xi (fp n) _ (by omega) (by omega) (by omega) _ Hsub.out).mono ?_
      rintro e w1 ⟨rfl, ko, hsb⟩
      have O5 := HO4.out.turn noteP_firm n (by rw [List.length_set]; have := Hhl.out; omega) ⟨z, z + 1, z + 1 + 1, z + 1 + 1 + 1, xA, xc, marksEn xi.length (z + 1 + 1 + 1 + 1), sn⟩ (by rw [List.getElem_set_self]; show [Value.int .i64 z, .int .i64 (z + 1), .int .i64 (z + 1 + 1), .int .i64 (z + 1 + 1 + 1), .slice xA (marksEn xi.length (z + 1 + 1 + 1 + 1)).length xc, .string sn] = _; rw [marksEn_length]; rfl) ko hsb
      rw [List.set_set] at O5
      have HO5 := hidP O5
      have hoff5 := hidP (((((hoff.out.set (.inl rfl) _ _).set (.inl rfl) _ _).set (.inl rfl) _ _).set (.inl rfl) _ _).trans (ko.mono (fun x hx => .inr ⟨n, hx⟩)))
      obtain ⟨Z, hZ⟩ : ∃ Z, z + 1 + 1 + 1 + 1 + (xi.length : Int) * 9 = Z := ⟨_, rfl⟩
      have HZ := hidP hZ
      rw [hZ]
      have hZ1 : 1 ≤ Z := by omega
      have hZ2 : Z ≤ 150000000 := by have h4 := Hcn.out; simp only [cN] at h4; have := hz.out; omega
      clear ko hsb O5 hZ c0 c1 c2 c3 c4 c5 f0 f1 f2 f3
      have hlen5 : n < ((half mN cN l k n).set n ⟨z, z + 1, z + 1 + 1, z + 1 + 1 + 1, xA, xc, marksEn xi.length (z + 1 + 1 + 1 + 1), sn⟩).length := by rw [List.length_set]; have := Hhl.out; omega
      go_wp2_with fail
      refine (Items.markText_at Z hZ1 (by omega) _).mono ?_
      rintro e w2 ⟨rfl, g2⟩
      have O6 := HO5.out.below noteP_firm g2
      have e5 : w2.cell? ⟨b, o + n * 6 + 5, none⟩ = some (.string sn) := by
        have h := O6.lst.cell n hlen5 (f := 5) (v := .string sn) (by rw [List.getElem_set_self]; rfl)
        exact h
      have f5 := (there_at (f := 5) O6.th hlen5 (by decide)).2
      simp only [show Cel.k NC = 6 from rfl] at f5
      have qb := O6.lt
      have O7 := O6.set1 noteP_firm n hlen5 ⟨z, z + 1, z + 1 + 1, z + 1 + 1 + 1, xA, xc, marksEn xi.length (z + 1 + 1 + 1 + 1), Items.markZ Z⟩ 5 (by decide) (.string (Items.markZ Z)) (by rw [List.getElem_set_self]; rfl) (fun W S h => by rw [List.getElem_set_self] at h; exact h)
      simp only [show Cel.k NC = 6 from rfl, List.set_set] at O7
      have hmN : (⟨z, z + 1, z + 1 + 1, z + 1 + 1 + 1, xA, xc, marksEn xi.length (z + 1 + 1 + 1 + 1), Items.markZ Z⟩ : NC) = mN ⟨k0, k1, k2, k3, xA, xc, xi, sn⟩ z := by
        have a2 : z + 1 + 1 = z + 2 := by omega
        have a3 : z + 2 + 1 = z + 3 := by omega
        have a4 : z + 3 + 1 = z + 4 := by omega
        simp only [mN, a2, a3, a4]
        rw [← HZ.out]
        simp only [a2, a3, a4]
      rw [hmN, ← Hsu.out] at O7
      have HO7 := hidP O7
      have hoff7 := hidP ((hoff5.out.below g2).set (b := b) (.inl rfl) (o + n * 6 + 5) (.string (Items.markZ Z)))
      clear O6 O7 HO5 hoff5 g2 HO4 Hsub hmN hlen5
      go_wp2
      have hz' := hz.out
      refine ⟨⟨n + 1, Z + 1, by go_num, rfl, by omega, by omega, ?_, ?_, hoff7, HO7⟩, by simp [intOf]; omega⟩
      · have h4 := Hcn.out; simp only [cN] at h4; have := HZ.out; have := hz.out; omega
      · show _ = _; rw [Hsn.out, ← HZ.out, hz']; simp only [cN]; omega
    · obtain rfl : n = l.length := by omega
      go_wp2
      go_ret
      have e := hz.out
      rw [count_all cN l _ (Nat.le_refl _)] at e
      have hh := hown.out
      rw [half_all mN cN l k _ (Nat.le_refl _)] at hh
      subst e
      exact ⟨rfl, hoff.out, hh⟩

set_option maxRecDepth 100000 in
set_option maxHeartbeats 1000000 in
theorem heldNoteS_any (A : Option Addr) (cap : Nat) (l : List NC) (k : Int) (hk : 1 ≤ k) (hk' : k ≤ 50000000) (hc : count cN l ≤ 50000000) (hl : l.length ≤ 1048576) (hs : ∀ x ∈ l, x.l.length ≤ 1048576) (w : World) (hA : At w A (marked mN cN l k)) (hE : EachN w (marked mN cN l k)) :
    Calls Tryd.prog 11 #[.slice A l.length cap, .int .i64 k] w fun e w' => e = .returned (.int .i64 (k + (count cN l : Int))) ∧ Below w.heap.size w w' := by
  have HA := hidP hA
  have HE := hidP hE
  have Hs := hidP hs
  have Hc := hidP hc
  clear hA hE hs hc
  have HML := hidP (marked_length mN cN l k)
  go_enter Tryd.func11, Tryd.ntmps11
  go_wp2
  go_loopw [1, 5] (fun kk i w' => ∃ (n : Nat) (z : Int), i = .int .i64 (n : Int) ∧ kk = .int .i64 z ∧ n ≤ l.length ∧ 1 ≤ z ∧ z ≤ 100000000 ∧ Hid (z = k + (count cN (l.take n) : Int)) ∧ Below w.heap.size w w') (fun _ i _ => l.length - (intOf i).toNat)
  case atStart => exact ⟨0, k, rfl, rfl, by omega, hk, by omega, by simp [Hid, count], Below.refl _ _⟩
  case round =>
    obtain ⟨n, z, rfl, rfl, hn, hz1, hz2, hz, hbl⟩ := hrel
    by_cases hlt : n < l.length
    · have hml := HML.out
      obtain ⟨b, o, rfl, hbs, hin⟩ : ∃ b o, A = some ⟨b, o, none⟩ ∧ b < w.heap.size ∧ In w b o (marked mN cN l k) := by
        rcases HA.out with h | h
        · rw [h] at hml; simp at hml; omega
        · exact h
      have hmn : n < (marked mN cN l k).length := by omega
      have hge := marked_get mN cN l n hlt k hmn
      rw [← hz.out] at hge
      obtain ⟨c0, c1, c2, c3, c4, c5⟩ := (hin.below hbs hbl).getNC n hmn
      have hat := (HE.out _ (List.getElem_mem hmn)).below hbl
      rw [hge] at c0 c1 c2 c3 c4 c5 hat
      have hit := Hs.out _ (List.getElem_mem hlt)
      have hcn : count cN (l.take n) + cN l[n] ≤ 50000000 := by rw [← count_snoc cN l n hlt]; exact Nat.le_trans (count_le cN l (n + 1)) Hc.out
      have Hsn := hidP (count_snoc cN l n hlt)
      generalize hx : l[n] = x at c0 c1 c2 c3 c4 c5 hit hcn hat Hsn
      obtain ⟨k0, k1, k2, k3, xA, xc, xi, sn⟩ := x
      simp only [mN, marksEn_length] at c0 c1 c2 c3 c4 c5 hit hat
      have a2 : z + 2 = z + 1 + 1 := by omega
      have a3 : z + 3 = z + 1 + 1 + 1 := by omega
      have a4 : z + 4 = z + 1 + 1 + 1 + 1 := by omega
      rw [a2] at c2
      rw [a3] at c3
      rw [a4] at c5 hat
      have HAt : Hid (xi.length = 0 ∨ ∃ b o, xA = some ⟨b, o, none⟩ ∧ b < wr.heap.size ∧ In wr b o (marksEn xi.length (z + 1 + 1 + 1 + 1))) := by
        rcases hat with h | h
        · exact .inl (by have := congrArg List.length h; simpa [marksEn_length] using this)
        · exact .inr h
      have Hcn := hidP hcn
      have hzc : z + 5 ≤ 100000000 := by
        have h3 := hz.out; have h4 := Hcn.out; simp only [cN] at h4; omega
      have hlim : xi.length * 9 + 5 ≤ 50000000 := by have := Hcn.out; simp only [cN] at this; omega
      clear hml hge hx hcn hat a2 a3 a4
      have hb1 : b < wr.heap.size := Nat.lt_of_lt_of_le hbs hbl.size
      obtain ⟨Z, hZ⟩ : ∃ Z, z + 1 + 1 + 1 + 1 + (xi.length : Int) * 9 = Z := ⟨_, rfl⟩
      have hneg : ¬ Z < 0 := by omega
      have hZ1 : 1 ≤ Z := by omega
      have hZ2 : Z ≤ 150000000 := by have h4 := Hcn.out; simp only [cN] at h4; have := hz.out; omega
      have HZ := hidP hZ
      have HE9 := hidP (heldEntryS_any xA xc xi.length (z + 1 + 1 + 1 + 1) (by omega) (by omega) (by omega) wr HAt.out)
      rw [hZ] at HE9 c5
      clear hZ
      go_wp2_with fail
      refine HE9.out.mono ?_
      rintro e w1 ⟨rfl, g1⟩
      have e5 : w1.cell? ⟨b, o + n * 6 + 5, none⟩ = some (.string (Items.markZ Z)) := ((bcell g1).1 _ _ hb1).trans c5
      have hb2 : b < w1.heap.size := Nat.lt_of_lt_of_le hb1 g1.size
      clear c0 c1 c2 c3 c4 c5 HE9
      go_wp2_with fail
      go_region_held3 (fun w' => w'.cell? ⟨b, o + n * 6 + 5, none⟩ = some (.string (Items.markZ Z)))
        (first | (exact (k1' _ _ hb2).trans e5) | assumption | go_keep)
        (first | (go_at_call 17; refine (Items.markText_at Z hZ1 (by omega) _).mono ?_; rintro e w2 ⟨rfl, g2⟩; obtain ⟨k1', m1'⟩ := bcell g2))
      all_goals
        go_wp2
        have hz' := hz.out
        refine ⟨⟨n + 1, Z + 1, by go_num, rfl, by omega, by omega, ?_, ?_, via0 g2 (Below.drew (via0 g1 hbl))⟩, by simp [intOf]; omega⟩
        · have h4 := Hcn.out; simp only [cN] at h4; have := HZ.out; have := hz.out; omega
        · show _ = _; rw [Hsn.out, ← HZ.out, hz']; simp only [cN]; omega
    · obtain rfl : n = l.length := by omega
      go_wp2
      go_ret
      have e := hz.out
      rw [count_all cN l _ (Nat.le_refl _)] at e
      subst e
      exact ⟨rfl, hbl⟩
end Go.Proofs.YtfbbifdfjjkknaaDoor.Gen
