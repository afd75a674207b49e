/-
  The program's set of a group's members, at this seat. No condition but that its lists have at most 1048576 numbers.
-/
import Derived.Test.YtllmaiefjgfpmaaGrpList
namespace Go.Proofs.Ytllmaiefjgfpmaa.Gen
open Go.ChangeShapes Go.WideShapes Go.ChangeAt Go.RowKit Go.Joins Go.Deep Base
set_option linter.unusedVariables false
set_option linter.unusedSimpArgs false

section
variable {α : Type} [Cel α]
/-- One cell of one record turned. -/
theorem flat_set {f : Nat} {v : Value} (hf : f < Cel.k α) : ∀ (l : List α) (n : Nat) (y : α) (hn : n < l.length), Cel.cs y = (Cel.cs l[n]).set f v → flat (l.set n y) = (flat l).set (n * Cel.k α + f) v
  | [], n, y, hn, _ => by simp at hn
  | x :: l, 0, y, _, h => by
    simp only [List.set_cons_zero, flat_cons, List.getElem_cons_zero] at h ⊢
    rw [h, Nat.zero_mul, Nat.zero_add, List.set_append_left _ _ (by rw [Cel.len]; exact hf)]
  | x :: l, n + 1, y, hn, h => by
    simp only [List.set_cons_succ, flat_cons, List.getElem_cons_succ] at h ⊢
    rw [flat_set hf l n y (by simpa using hn) h, List.set_append_right _ _ (by rw [Cel.len, Nat.add_mul]; omega), Cel.len]
    congr 2
    rw [Nat.add_mul]; omega
theorem In.upd {w : World} {b n f : Nat} {l : List α} {y : α} {v : Value} (h : In w b 0 l) (hth : w.there b 0 (l.length * Cel.k α)) (hn : n < l.length) (hf : f < Cel.k α) (hy : Cel.cs y = (Cel.cs l[n]).set f v) :
    In (w.setCell ⟨b, n * Cel.k α + f, none⟩ v) b 0 (l.set n y) ∧ (w.setCell ⟨b, n * Cel.k α + f, none⟩ v).there b 0 ((l.set n y).length * Cel.k α) := by
  refine ⟨?_, by rw [List.length_set]; exact there_set hth _ _ _⟩
  intro j u hu
  rw [flat_set hf l n y hn hy, List.getElem?_set] at hu
  by_cases hj : n * Cel.k α + f = j
  · rw [if_pos hj] at hu
    split at hu
    · cases hu
      subst hj
      rw [Nat.zero_add]
      have hlt : n * Cel.k α + f < l.length * Cel.k α := by have : (n + 1) * Cel.k α ≤ l.length * Cel.k α := Nat.mul_le_mul_right _ hn; rw [Nat.add_mul] at this; omega
      have h1 := (hth _ hlt).1
      rw [Nat.zero_add] at h1
      have := World.rangeAt_setCells_same w b (n * Cel.k α + f) [v] (fun i hi => by
        have : i = 0 := by simpa using hi
        subst this
        exact hth _ hlt |>.imp (fun e => by rwa [Nat.zero_add] at e) (fun e => by rwa [Nat.zero_add] at e)) 0 v rfl
      have h9 : (w.setCells b (n * Cel.k α + f) [v]).cell? ⟨b, n * Cel.k α + f, none⟩ = some v := by simpa using this
      exact h9
    · cases hu
  · rw [if_neg hj] at hu
    rw [World.cell?_setCell_other (h := fun e => hj (by have := congrArg Addr.off e; simp only [Nat.zero_add] at this; omega))]
    exact h j u hu
end

/-- The members of a group, each with its Beat, where it has one. -/
def mbs (m b : List Int) : List Mb := (List.range m.length).map fun i => ⟨m.getD i 0, b.getD i 0, decide (i < b.length)⟩
theorem mbs_length (m b : List Int) : (mbs m b).length = m.length := by simp [mbs]
theorem mbs_get {m b : List Int} {n : Nat} (h : n < m.length) (h' : n < (mbs m b).length) : (mbs m b)[n] = ⟨m[n], b.getD n 0, decide (n < b.length)⟩ := by simp [mbs, h]
def zeroMb : Mb := ⟨0, 0, false⟩
/-- The first n are laid. -/
def laid (m b : List Int) (n : Nat) : List Mb := (mbs m b).take n ++ List.replicate (m.length - n) zeroMb
theorem laid_length {m b : List Int} {n : Nat} (h : n ≤ m.length) : (laid m b n).length = m.length := by simp [laid, mbs_length]; omega
theorem laid_get {m b : List Int} {n : Nat} (h : n < m.length) (h' : n < (laid m b n).length) : (laid m b n)[n] = zeroMb := by
  have : (laid m b n)[n]? = some zeroMb := by
    unfold laid
    have hl : ((mbs m b).take n).length = n := by simp [mbs_length]; omega
    rw [List.getElem?_append_right (by omega), hl, Nat.sub_self, List.getElem?_replicate, if_pos (by omega)]
  rw [List.getElem?_eq_getElem h'] at this
  exact Option.some.inj this
theorem laid_set {m b : List Int} {n : Nat} (h : n < m.length) : (laid m b n).set n ⟨m[n], b.getD n 0, decide (n < b.length)⟩ = laid m b (n + 1) := by
  unfold laid
  have hl : ((mbs m b).take n).length = n := by simp [mbs_length]; omega
  have e : m.length - n = (m.length - (n + 1)) + 1 := by omega
  rw [List.set_append_right _ _ (by omega), hl, Nat.sub_self, e, List.replicate_succ, List.set_cons_zero, List.take_succ_eq_append_getElem (by rw [mbs_length]; exact h), List.append_assoc]
  rw [mbs_get h]
  rfl
theorem laid_all (m b : List Int) : laid m b m.length = mbs m b := by
  unfold laid
  rw [Nat.sub_self, List.take_of_length_le (by rw [mbs_length]; omega)]
  simp
theorem made_in3 (w : World) (n : Nat) (t : TypeId) : In (w.alloc (.cells (madeCells #[Value.int .i64 0, .int .i64 0, .bool false] (n * 3)) t)) w.heap.size 0 (List.replicate n zeroMb) := by
  intro j v hv
  have hj : j < n * 3 := by
    have := (List.getElem?_eq_some_iff.1 hv).1
    rw [flat_length, List.length_replicate] at this
    exact this
  have h3 : j % 3 < 3 := Nat.mod_lt _ (by omega)
  have hd : j / 3 < n := by omega
  have e : j = j / 3 * Cel.k Mb + j % 3 := by show j = j / 3 * 3 + j % 3; omega
  have h2 := flat_get (List.replicate n zeroMb) (j / 3) (by simpa using hd) (j % 3) h3
  rw [← e, hv] at h2
  simp only [List.getElem_replicate] at h2
  have h4 : [Value.int .i64 0, .int .i64 0, .bool false][j % 3]? = some v := h2.symm
  rw [Nat.zero_add]
  have hs : j < (madeCells #[Value.int .i64 0, .int .i64 0, .bool false] (n * 3)).size := by rw [size_madeCells]; exact hj
  simp [hs, madeCells]
  refine ⟨j, by simp [hj], ?_⟩
  rw [h4]; rfl

/-- A block has n cells. -/
def Sz (W : World) (b : Nat) (t : TypeId) (n : Nat) : Prop := ∃ cur, Blk W b t cur ∧ cur.size = n
theorem Sz.set {W : World} {b : Nat} {t : TypeId} {n : Nat} (h : Sz W b t n) (B i : Nat) (v : Value) : Sz (W.setCell ⟨B, i, none⟩ v) b t n := by
  obtain ⟨cur, hb, hs⟩ := h
  by_cases e : b = B
  · subst e; exact ⟨_, hb.setAt i v, by simpa using hs⟩
  · exact ⟨cur, hb.other e i v, hs⟩
theorem Sz.below {W W' : World} {b c : Nat} {t : TypeId} {n : Nat} (h : Sz W b t n) (hb : Below c W W') (hc : b < c) : Sz W' b t n := by
  obtain ⟨cur, h1, hs⟩ := h
  exact ⟨cur, h1.below hb hc, hs⟩

/-- Beats that are nobody's. -/
def extraF (m b : List Int) : List Int := b.drop m.length

set_option maxRecDepth 100000 in
set_option maxHeartbeats 2000000 in
theorem membersOf_any (gen : Int) (A B C : Option Addr) (ca cb cc : Nat) (m b o : List Int) (hm : m.length ≤ 1048576) (hb : b.length ≤ 1048576) (w : World) (hA : At w A m) (hB : At w B b) (hcb : b.length ≤ cb) (hcb' : cb ≤ 9223372036854775807) :
    Calls Try.prog 32 #[.agg #[.int .i64 gen, .slice A m.length ca, .slice B b.length cb, .slice C o.length cc]] w fun e w' => e = .returned (.pointer (some ⟨w.heap.size + 1 + 1, 0, none⟩)) ∧ In w' (w.heap.size + 1) 0 (mbs m b) ∧ w'.there (w.heap.size + 1) 0 (m.length * 3) ∧ Sz w' (w.heap.size + 1) 59 (m.length * 3) ∧ Below w.heap.size w w' ∧ ∃ AN cN, Blk w' (w.heap.size + 1 + 1) 84 #[.slice (some ⟨w.heap.size + 1, 0, none⟩) m.length m.length, .slice AN (extraF m b).length cN] ∧ At w' AN (extraF m b) ∧ ∀ x, (Value.slice AN (extraF m b).length cN).ownBlock = some x → w.heap.size + 1 + 1 < x := by
  have HA := hidP hA
  have HB := hidP hB
  clear hA hB
  have hmk := make_els (P := Try.prog) Try.underlying82 infoMb (by omega) m.length hm
  go_enter Try.func32, Try.ntmps32
  go_wp2
  have p0 := ((Blk.new w 26 #[.int .i64 gen, .slice A m.length ca, .slice B b.length cb, .slice C o.length cc]).alloc (.cells (madeCells #[Value.int .i64 0, .int .i64 0, .bool false] (m.length * 3)) 59)).alloc (.cells #[.slice (some ⟨w.heap.size + 1, 0, none⟩) m.length m.length, .slice none 0 0] 84)
  have p2 := Blk.new ((w.alloc (.cells #[.int .i64 gen, .slice A m.length ca, .slice B b.length cb, .slice C o.length cc] 26)).alloc (.cells (madeCells #[Value.int .i64 0, .int .i64 0, .bool false] (m.length * 3)) 59)) 84 #[.slice (some ⟨w.heap.size + 1, 0, none⟩) m.length m.length, .slice none 0 0]
  have i1 := (made_in3 (w.alloc (.cells #[.int .i64 gen, .slice A m.length ca, .slice B b.length cb, .slice C o.length cc] 26)) m.length 59).below (by simp) (alloc0 (Below.refl _ _) (.cells #[.slice (some ⟨w.heap.size + 1, 0, none⟩) m.length m.length, .slice none 0 0] 84))
  have t1 := there_below (made_there (w.alloc (.cells #[.int .i64 gen, .slice A m.length ca, .slice B b.length cb, .slice C o.length cc] 26)) #[Value.int .i64 0, .int .i64 0, .bool false] m.length 3 59) (by simp) (alloc0 (Below.refl _ _) (.cells #[.slice (some ⟨w.heap.size + 1, 0, none⟩) m.length m.length, .slice none 0 0] 84))
  have z1 : Sz (((w.alloc (.cells #[.int .i64 gen, .slice A m.length ca, .slice B b.length cb, .slice C o.length cc] 26)).alloc (.cells (madeCells #[Value.int .i64 0, .int .i64 0, .bool false] (m.length * 3)) 59)).alloc (.cells #[.slice (some ⟨w.heap.size + 1, 0, none⟩) m.length m.length, .slice none 0 0] 84)) (w.alloc (.cells #[.int .i64 gen, .slice A m.length ca, .slice B b.length cb, .slice C o.length cc] 26)).heap.size 59 (m.length * 3) := ⟨_, (Blk.new _ _ _).alloc _, size_madeCells _ _⟩
  simp only [World.size_alloc] at p2 i1 t1 z1
  go_loopw [15] (fun i W => ∃ n : Nat, i = .int .i64 (n : Int) ∧ n ≤ m.length ∧ Hid (In W (w.heap.size + 1) 0 (laid m b n)) ∧ Hid (W.there (w.heap.size + 1) 0 (m.length * 3)) ∧ Hid (Sz W (w.heap.size + 1) 59 (m.length * 3)) ∧ Hid (Blk W (w.heap.size + 1 + 1) 84 #[.slice (some ⟨w.heap.size + 1, 0, none⟩) m.length m.length, .slice none 0 0]) ∧ Hid (Blk W w.heap.size 26 #[.int .i64 gen, .slice A m.length ca, .slice B b.length cb, .slice C o.length cc]) ∧ Below w.heap.size w W) (fun i _ => m.length - (intOf i).toNat)
  case atStart => exact ⟨0, rfl, by omega, by show In _ _ _ _; simpa [laid] using i1, t1, z1, p2, p0, by repeat (first | exact Below.refl _ _ | assumption | refine via0 (by assumption) ?_ | refine Below.drew ?_ | refine alloc0 ?_ _)⟩
  case round =>
    clear p0 p2 i1 t1 z1
    obtain ⟨n, rfl, hn, hI, hT, hZ, bS, bG, hbl⟩ := hrel
    obtain ⟨g0, g1⟩ := bS.out.row2
    obtain ⟨v0, v1, v2, v3⟩ := bG.out.row4
    have qS := bS.out.lt
    by_cases hlt : n < m.length
    · obtain ⟨b1, o1, rfl, hbs, hin⟩ : ∃ b o, A = some ⟨b, o, none⟩ ∧ b < w.heap.size ∧ In w b o m := by
        rcases HA.out with h | h
        · subst h; simp at hlt
        · exact h
      have c0 := (hin.below hbs hbl).getInt n hlt
      have hi0 : (0 : Int) ≤ (n : Int) := by omega
      have hi1 : (n : Int) < (m.length : Int) := by omega
      obtain ⟨⟨d0, e0⟩, f0⟩ := there_at (f := 0) hT.out hlt (by omega)
      simp only [Nat.zero_add, Nat.add_zero] at e0 f0
      have hlen : (laid m b n).length = m.length := laid_length (by omega)
      have U0 := In.upd (f := 0) (y := (⟨m[n], 0, false⟩ : Mb)) (v := .int .i64 m[n]) hI.out (by rw [hlen]; exact hT.out) (by rw [hlen]; exact hlt) (by decide) (by rw [laid_get hlt]; rfl)
      rw [List.length_set, hlen] at U0
      have HU0 : Hid (In (wr.setCell ⟨w.heap.size + 1, n * 3, none⟩ (.int .i64 m[n])) (w.heap.size + 1) 0 ((laid m b n).set n ⟨m[n], 0, false⟩)) := U0.1
      have HT0 : Hid ((wr.setCell ⟨w.heap.size + 1, n * 3, none⟩ (.int .i64 m[n])).there (w.heap.size + 1) 0 (m.length * 3)) := U0.2
      have HZ0 : Hid (Sz (wr.setCell ⟨w.heap.size + 1, n * 3, none⟩ (.int .i64 m[n])) (w.heap.size + 1) 59 (m.length * 3)) := hZ.out.set _ _ _
      clear U0
      have bS1 := bS.out.other (B' := w.heap.size + 1) (by omega) (n * 3) (.int .i64 m[n])
      have bG1 := bG.out.other (B' := w.heap.size + 1) (by omega) (n * 3) (.int .i64 m[n])
      have hbl1 : Below w.heap.size w (wr.setCell ⟨w.heap.size + 1, n * 3, none⟩ (.int .i64 m[n])) := bl_set hbl (by omega) _
      by_cases hlb : n < b.length
      · have hib : (n : Int) < (b.length : Int) := by omega
        obtain ⟨b2, o2, rfl, hbs2, hin2⟩ : ∃ b' o', B = some ⟨b', o', none⟩ ∧ b' < w.heap.size ∧ In w b' o' b := by
          rcases HB.out with h | h
          · subst h; simp at hlb
          · exact h
        go_wp2
        generalize wr.setCell ⟨w.heap.size + 1, n * 3, none⟩ (.int .i64 m[n]) = W1 at *
        have inB := hin2.below hbs2 hbl1
        have eb1 : Hid (W1.cell? ⟨b2, o2 + n, none⟩ = some (.int .i64 b[n])) := inB.getInt n hlb
        have inB2 := inB.set ⟨w.heap.size + 1, n * 3 + 1, none⟩ (.int .i64 b[n]) (by show w.heap.size + 1 ≠ b2; omega)
        have eb2 : Hid ((W1.setCell ⟨w.heap.size + 1, n * 3 + 1, none⟩ (.int .i64 b[n])).cell? ⟨b2, o2 + n, none⟩ = some (.int .i64 b[n])) := inB2.getInt n hlb
        have eb3 : Hid (((W1.setCell ⟨w.heap.size + 1, n * 3 + 1, none⟩ (.int .i64 b[n])).setCell ⟨w.heap.size + 1, n * 3 + 2, none⟩ (.bool true)).cell? ⟨b2, o2 + n, none⟩ = some (.int .i64 b[n])) := (inB2.set ⟨w.heap.size + 1, n * 3 + 2, none⟩ (.bool true) (by show w.heap.size + 1 ≠ b2; omega)).getInt n hlb
        have bS2 := bS1.other (B' := w.heap.size + 1) (by omega) (n * 3 + 1) (.int .i64 b[n])
        have bG2 := bG1.other (B' := w.heap.size + 1) (by omega) (n * 3 + 1) (.int .i64 b[n])
        have bS3 := bS2.other (B' := w.heap.size + 1) (by omega) (n * 3 + 2) (.bool true)
        have bG3 := bG2.other (B' := w.heap.size + 1) (by omega) (n * 3 + 2) (.bool true)
        have hbl3 : Below w.heap.size w ((W1.setCell ⟨w.heap.size + 1, n * 3 + 1, none⟩ (.int .i64 b[n])).setCell ⟨w.heap.size + 1, n * 3 + 2, none⟩ (.bool true)) := bl_set (bl_set hbl1 (by omega) _) (by omega) _
        obtain ⟨⟨d1, e1⟩, f1⟩ := there_at (f := 1) HT0.out hlt (by omega)
        obtain ⟨⟨d2, e2⟩, f2⟩ := there_at (f := 2) HT0.out hlt (by omega)
        simp only [Nat.zero_add] at e1 f1 e2 f2
        have hl1 : ((laid m b n).set n (⟨m[n], 0, false⟩ : Mb)).length = m.length := by rw [List.length_set, hlen]
        have U1 := In.upd (n := n) (f := 1) (y := (⟨m[n], b[n], false⟩ : Mb)) (v := .int .i64 b[n]) HU0.out (by rw [hl1]; exact HT0.out) (by rw [hl1]; exact hlt) (by decide) (by rw [List.getElem_set_self]; rfl)
        rw [List.set_set, List.length_set, hlen] at U1
        have hl2 : ((laid m b n).set n (⟨m[n], b[n], false⟩ : Mb)).length = m.length := by rw [List.length_set, hlen]
        have U2 := In.upd (n := n) (f := 2) (y := (⟨m[n], b[n], true⟩ : Mb)) (v := .bool true) U1.1 (by rw [hl2]; exact U1.2) (by rw [hl2]; exact hlt) (by decide) (by rw [List.getElem_set_self]; rfl)
        rw [List.set_set, List.length_set, hlen] at U2
        have hE : (laid m b n).set n ⟨m[n], b[n], true⟩ = laid m b (n + 1) := by rw [← laid_set hlt]; simp [hlb]
        rw [hE] at U2
        have HU2 : Hid (In ((W1.setCell ⟨w.heap.size + 1, n * 3 + 1, none⟩ (.int .i64 b[n])).setCell ⟨w.heap.size + 1, n * 3 + 2, none⟩ (.bool true)) (w.heap.size + 1) 0 (laid m b (n + 1))) := U2.1
        have HT2 : Hid (((W1.setCell ⟨w.heap.size + 1, n * 3 + 1, none⟩ (.int .i64 b[n])).setCell ⟨w.heap.size + 1, n * 3 + 2, none⟩ (.bool true)).there (w.heap.size + 1) 0 (m.length * 3)) := U2.2
        have HZ2 : Hid (Sz ((W1.setCell ⟨w.heap.size + 1, n * 3 + 1, none⟩ (.int .i64 b[n])).setCell ⟨w.heap.size + 1, n * 3 + 2, none⟩ (.bool true)) (w.heap.size + 1) 59 (m.length * 3)) := (HZ0.out.set _ _ _).set _ _ _
        clear U1 U2 hE hl1 hl2 inB inB2
        refine wp_region_noPanic ?_
        refine wp_region_held_drew (S := fun (w' : World) => w'.cell? ⟨w.heap.size + 1 + 1, 0, none⟩ = some (.slice (some ⟨w.heap.size + 1, 0, none⟩) m.length m.length) ∧ w'.cell? ⟨w.heap.size, 2, none⟩ = some (.slice (some ⟨b2, o2, none⟩) b.length cb) ∧ w'.cell? ⟨b2, o2 + n, none⟩ = some (.int .i64 b[n])) (by kernel_rfl) ?_ (fun hH => ?_)
        · exact ⟨bS1.row2.1, bG1.row4.2.2.1, eb1.out⟩
        refine' wpAnyH_take (i := 0) (v := _) rfl (by kernel_rfl) (by kernel_rfl) (by kernel_rfl) (fun _ _ _ h => h) (Or.inl ⟨by rfl, ?hy1⟩) (by assumption) ?rest1
        case hy1 => (intro w hSw; (try dsimp only at hSw); go_simp <;> with_reducible rfl)
        try simp only [Act.put, List.setIfInBounds_toArray, List.set_cons_zero, List.set_cons_succ, List.getElem_toArray, List.getElem_cons_succ, List.getElem_cons_zero]
        refine' wpAnyH_take (i := 1) (v := _) rfl (by kernel_rfl) (by kernel_rfl) (by kernel_rfl) (fun _ _ _ h => h) (Or.inl ⟨by rfl, ?hy2⟩) (by assumption) ?rest2
        case hy2 => (intro w hSw; (try dsimp only at hSw); go_simp <;> with_reducible rfl)
        try simp only [Act.put, List.setIfInBounds_toArray, List.set_cons_zero, List.set_cons_succ, List.getElem_toArray, List.getElem_cons_succ, List.getElem_cons_zero]
        refine' wpAnyH_take (i := 2) (v := _) rfl (by kernel_rfl) (by kernel_rfl) (by kernel_rfl) (fun _ _ _ h => h) (Or.inl ⟨by rfl, ?hy3⟩) (by assumption) ?rest3
        case hy3 => (intro w hSw; (try dsimp only at hSw); go_simp <;> with_reducible rfl)
        try simp only [Act.put, List.setIfInBounds_toArray, List.set_cons_zero, List.set_cons_succ, List.getElem_toArray, List.getElem_cons_succ, List.getElem_cons_zero]
        refine' wpAnyH_take (i := 3) (v := _) rfl (by kernel_rfl) (by kernel_rfl) (by kernel_rfl) (fun _ _ _ h => h) (Or.inl ⟨by rfl, ?hy4⟩) (by assumption) ?rest4
        case hy4 => (intro w hSw; (try dsimp only at hSw); go_simp <;> with_reducible rfl)
        try simp only [Act.put, List.setIfInBounds_toArray, List.set_cons_zero, List.set_cons_succ, List.getElem_toArray, List.getElem_cons_succ, List.getElem_cons_zero]
        refine' wpAnyH_take (i := 4) (v := _) rfl (by kernel_rfl) (by kernel_rfl) (by kernel_rfl) (fun _ _ _ h => h) (Or.inl ⟨by rfl, ?hy5⟩) (by assumption) ?rest5
        case hy5 => (intro w hSw; (try dsimp only at hSw); go_simp <;> with_reducible rfl)
        try simp only [Act.put, List.setIfInBounds_toArray, List.set_cons_zero, List.set_cons_succ, List.getElem_toArray, List.getElem_cons_succ, List.getElem_cons_zero]
        refine' wpAnyH_take (i := 5) (v := _) rfl (by kernel_rfl) (by kernel_rfl) (by kernel_rfl) (fun _ _ _ h => h) (Or.inl ⟨by rfl, ?hy6⟩) (by assumption) ?rest6
        case hy6 => (intro w hSw; (try dsimp only at hSw); go_simp <;> with_reducible rfl)
        try simp only [Act.put, List.setIfInBounds_toArray, List.set_cons_zero, List.set_cons_succ, List.getElem_toArray, List.getElem_cons_succ, List.getElem_cons_zero]
        refine' wpAnyH_take (i := 6) (v := _) rfl (by kernel_rfl) (by kernel_rfl) (by kernel_rfl) (fun _ _ _ h => h) (Or.inl ⟨by rfl, ?hy7⟩) (by assumption) ?rest7
        case hy7 => (intro w hSw; (try dsimp only at hSw); go_simp <;> with_reducible rfl)
        try simp only [Act.put, List.setIfInBounds_toArray, List.set_cons_zero, List.set_cons_succ, List.getElem_toArray, List.getElem_cons_succ, List.getElem_cons_zero]
        refine' wpAnyH_take (i := 7) (v := _) rfl (by kernel_rfl) (by kernel_rfl) (by kernel_rfl) (fun _ _ _ h => h) (Or.inl ⟨by rfl, ?hy8⟩) (by assumption) ?rest8
        case hy8 => (intro w hSw; (try dsimp only at hSw); go_simp <;> with_reducible rfl)
        try simp only [Act.put, List.setIfInBounds_toArray, List.set_cons_zero, List.set_cons_succ, List.getElem_toArray, List.getElem_cons_succ, List.getElem_cons_zero]
        refine' wpAnyH_take (i := 8) (v := _) rfl (by kernel_rfl) (by kernel_rfl) (by kernel_rfl) (fun _ _ _ h => h) (Or.inl ⟨by rfl, ?hy9⟩) (by assumption) ?rest9
        case hy9 => (intro w hSw; (try dsimp only at hSw); go_simp <;> with_reducible rfl)
        try simp only [Act.put, List.setIfInBounds_toArray, List.set_cons_zero, List.set_cons_succ, List.getElem_toArray, List.getElem_cons_succ, List.getElem_cons_zero]
        refine' wpAnyH_take (i := 9) (v := _) rfl (by kernel_rfl) (by kernel_rfl) (by kernel_rfl) (fun _ _ _ h => h) (Or.inl ⟨by rfl, ?hy10⟩) (by assumption) ?rest10
        case hy10 => (intro w hSw; (try dsimp only at hSw); go_simp <;> with_reducible rfl)
        try simp only [Act.put, List.setIfInBounds_toArray, List.set_cons_zero, List.set_cons_succ, List.getElem_toArray, List.getElem_cons_succ, List.getElem_cons_zero]
        refine' wpAnyH_take (i := 10) (v := _) rfl (by kernel_rfl) (by kernel_rfl) (by kernel_rfl) (fun _ _ _ h => h) (Or.inl ⟨by rfl, ?hy11⟩) (by assumption) ?rest11
        case hy11 => (intro w hSw; (try dsimp only at hSw); go_simp <;> with_reducible rfl)
        try simp only [Act.put, List.setIfInBounds_toArray, List.set_cons_zero, List.set_cons_succ, List.getElem_toArray, List.getElem_cons_succ, List.getElem_cons_zero]
        refine' wpAnyH_take (i := 11) (v := _) rfl (by kernel_rfl) (by kernel_rfl) (by kernel_rfl) (fun _ _ _ h => h) (Or.inl ⟨by rfl, ?hy12⟩) (by assumption) ?rest12
        case hy12 => (intro w hSw; (try dsimp only at hSw); go_simp <;> with_reducible rfl)
        try simp only [Act.put, List.setIfInBounds_toArray, List.set_cons_zero, List.set_cons_succ, List.getElem_toArray, List.getElem_cons_succ, List.getElem_cons_zero]
        refine' wpAnyH_take (i := 12) (v := _) rfl (by kernel_rfl) (by kernel_rfl) (by kernel_rfl) (fun _ _ _ h => h) (Or.inl ⟨by rfl, ?hy13⟩) (by assumption) ?rest13
        case hy13 => (intro w hSw; (try dsimp only at hSw); go_simp <;> with_reducible rfl)
        try simp only [Act.put, List.setIfInBounds_toArray, List.set_cons_zero, List.set_cons_succ, List.getElem_toArray, List.getElem_cons_succ, List.getElem_cons_zero]
        refine' wpAnyH_take (i := 13) (v := _) rfl (by kernel_rfl) (by kernel_rfl) (by kernel_rfl) (fun _ _ _ h => h) (Or.inl ⟨by rfl, ?hy14⟩) (by assumption) ?rest14
        case hy14 => (intro w hSw; (try dsimp only at hSw); go_simp <;> with_reducible rfl)
        try simp only [Act.put, List.setIfInBounds_toArray, List.set_cons_zero, List.set_cons_succ, List.getElem_toArray, List.getElem_cons_succ, List.getElem_cons_zero]
        refine' wpAnyH_take (i := 14) (v := _) rfl (by kernel_rfl) (by kernel_rfl) (by kernel_rfl) (fun _ _ _ h => h) (Or.inl ⟨by rfl, ?hy15⟩) (by assumption) ?rest15
        case hy15 => (intro w hSw; (try dsimp only at hSw); go_simp <;> with_reducible rfl)
        try simp only [Act.put, List.setIfInBounds_toArray, List.set_cons_zero, List.set_cons_succ, List.getElem_toArray, List.getElem_cons_succ, List.getElem_cons_zero]
        refine' wpAnyH_take (i := 15) (v := _) rfl (by kernel_rfl) (by kernel_rfl) (by kernel_rfl) (fun _ _ _ h => h) (Or.inl ⟨by rfl, ?hy16⟩) (by assumption) ?rest16
        case hy16 => (intro w hSw; (try dsimp only at hSw); go_simp <;> with_reducible rfl)
        try simp only [Act.put, List.setIfInBounds_toArray, List.set_cons_zero, List.set_cons_succ, List.getElem_toArray, List.getElem_cons_succ, List.getElem_cons_zero]
        refine' wpAnyH_take (i := 16) (v := _) rfl (by kernel_rfl) (by kernel_rfl) (by kernel_rfl) (fun _ _ _ h => h) (Or.inl ⟨by rfl, ?hy17⟩) (by assumption) ?rest17
        case hy17 => (intro w hSw; (try dsimp only at hSw); go_simp <;> with_reducible rfl)
        try simp only [Act.put, List.setIfInBounds_toArray, List.set_cons_zero, List.set_cons_succ, List.getElem_toArray, List.getElem_cons_succ, List.getElem_cons_zero]
        refine wpAnyH_ready (rs := [17]) (by kernel_rfl) (by simp) (AllReadyH.cons rfl (fun K hK => ?_) AllReadyH.nil)
        simp only [List.getElem_toArray, List.getElem_cons_succ, List.getElem_cons_zero]
        go_simp
        refine hK.out _ _ ?_ (fun hH => ?_)
        · exact ⟨bS2.row2.1, bG2.row4.2.2.1, eb2.out⟩
        clear hK K
        try simp only [Act.put, List.setIfInBounds_toArray, List.set_cons_zero, List.set_cons_succ, List.getElem_toArray, List.getElem_cons_succ, List.getElem_cons_zero]
        refine' wpAnyH_take (i := 18) (v := _) rfl (by kernel_rfl) (by kernel_rfl) (by kernel_rfl) (fun _ _ _ h => h) (Or.inl ⟨by rfl, ?hy18⟩) (by assumption) ?rest18
        case hy18 => (intro w hSw; (try dsimp only at hSw); go_simp <;> with_reducible rfl)
        try simp only [Act.put, List.setIfInBounds_toArray, List.set_cons_zero, List.set_cons_succ, List.getElem_toArray, List.getElem_cons_succ, List.getElem_cons_zero]
        refine' wpAnyH_take (i := 19) (v := _) rfl (by kernel_rfl) (by kernel_rfl) (by kernel_rfl) (fun _ _ _ h => h) (Or.inl ⟨by rfl, ?hy19⟩) (by assumption) ?rest19
        case hy19 => (intro w hSw; (try dsimp only at hSw); go_simp <;> with_reducible rfl)
        try simp only [Act.put, List.setIfInBounds_toArray, List.set_cons_zero, List.set_cons_succ, List.getElem_toArray, List.getElem_cons_succ, List.getElem_cons_zero]
        refine wpAnyH_ready (rs := [20]) (by kernel_rfl) (by simp) (AllReadyH.cons rfl (fun K hK => ?_) AllReadyH.nil)
        simp only [List.getElem_toArray, List.getElem_cons_succ, List.getElem_cons_zero]
        go_simp
        refine hK.out _ _ ?_ (fun hH => ?_)
        · exact ⟨bS3.row2.1, bG3.row4.2.2.1, eb3.out⟩
        clear hK K
        try simp only [Act.put, List.setIfInBounds_toArray, List.set_cons_zero, List.set_cons_succ, List.getElem_toArray, List.getElem_cons_succ, List.getElem_cons_zero]
        refine wpAnyH_done (by kernel_rfl) ?_ _
        refine NoPanic.normal ?_
        go_wp2
        exact ⟨⟨n + 1, by go_num, by omega, HU2, HT2, HZ2, bS3, bG3, hbl3.drew⟩, by simp [intOf]; omega⟩
      · have hib : ¬ (n : Int) < (b.length : Int) := by omega
        have hE : (laid m b n).set n ⟨m[n], 0, false⟩ = laid m b (n + 1) := by rw [← laid_set hlt]; simp [hlb]
        rw [hE] at HU0
        go_wp2
        exact ⟨⟨n + 1, by go_num, by omega, HU0, HT0, HZ0, bS1, bG1, hbl1⟩, by simp [intOf]; omega⟩
    · obtain rfl : n = m.length := by omega
      rw [laid_all] at hI
      by_cases hgt : m.length < b.length
      · have hig : (b.length : Int) > (m.length : Int) := by omega
        obtain ⟨b2, o2, rfl, hbs2, hin2⟩ : ∃ b' o', B = some ⟨b', o', none⟩ ∧ b' < w.heap.size ∧ In w b' o' b := by
          rcases HB.out with h | h
          · subst h; simp at hgt
          · exact h
        have hc1 : (m.length : Int) ≤ (cb : Int) := by omega
        have hc2 : ¬ cb = m.length := by omega
        have hc3 : (b.length : Int) ≤ (cb : Int) := by omega
        have hc4 : (m.length : Int) ≤ (b.length : Int) := by omega
        have hxl : (extraF m b).length = b.length - m.length := List.length_drop
        have hdr := In.drop m.length (hin2.below hbs2 hbl)
        have hk1 : o2 + m.length * Cel.k Int = o2 + m.length := by show o2 + m.length * 1 = _; omega
        rw [hk1] at hdr
        have hcp := copyOf_any (some ⟨b2, o2 + m.length, none⟩) (cb - m.length) (extraF m b) (by omega) wr (.inr ⟨b2, o2 + m.length, rfl, Nat.lt_of_lt_of_le hbs2 hbl.size, hdr⟩)
        rw [hxl] at hcp
        have Hcp := hidP hcp
        have Hxl := hidP hxl
        clear hcp hxl hdr
        go_wp2_with fail
        refine Hcp.out.mono ?_
        rintro e w3 ⟨vN, rfl, hown, g3⟩
        obtain ⟨aN, cN, rfl, _⟩ := owns_form hown
        have bS3 := bS.out.below g3 bS.out.lt
        obtain ⟨y0, y1⟩ := bS3.row2
        have fy1 := bS3.thaw 1
        have qS3 := bS3.lt
        have far : some (w.heap.size + 1 + 1) ≠ (Value.slice aN (b.length - m.length) cN).ownBlock := owns_far hown qS
        have HO := hidP (owns_set (C := w.heap.size + 1 + 1) (i := 1) (u := .slice aN (b.length - m.length) cN) hown far)
        have q1 : w.heap.size + 1 < wr.heap.size := by omega
        have HI3 := hidP ((hI.out.below q1 g3).set ⟨w.heap.size + 1 + 1, 1, none⟩ (.slice aN (b.length - m.length) cN) (by simp))
        have HT3 := hidP (there_set (there_below hT.out q1 g3) (w.heap.size + 1 + 1) 1 (.slice aN (b.length - m.length) cN))
        have HZ3 := hidP ((hZ.out.below g3 q1).set (w.heap.size + 1 + 1) 1 (.slice aN (b.length - m.length) cN))
        have HB3 : Hid (Below w.heap.size w (w3.setCell ⟨w.heap.size + 1 + 1, 1, none⟩ (.slice aN (b.length - m.length) cN))) := bl_set (via0 g3 hbl) (by omega) _
        have HS3 : Hid (Blk (w3.setCell ⟨w.heap.size + 1 + 1, 1, none⟩ (.slice aN (b.length - m.length) cN)) (w.heap.size + 1 + 1) 84 #[.slice (some ⟨w.heap.size + 1, 0, none⟩) m.length m.length, .slice aN (b.length - m.length) cN]) := bS3.setAt 1 _
        have hfar : Hid (∀ n x, (Value.slice aN n cN).ownBlock = some x → w.heap.size + 1 + 1 < x) := fun n x hx => by have := (hown.lt x (by cases aN with | none => exact hx | some a => exact hx)).1; omega
        clear hown g3 g0 g1 v0 v1 v2 v3
        go_wp2
        go_ret
        refine ⟨rfl, HI3.out, HT3.out, HZ3.out, HB3.out, aN, cN, by rw [Hxl.out]; exact HS3.out, by exact owns_at (t := 3) (B := wr.heap.size) Hxl.out.symm HO.out, hfar.out _⟩
      · have hig : ¬ (b.length : Int) > (m.length : Int) := by omega
        have hx : Hid (extraF m b = []) := List.drop_eq_nil_of_le (by omega)
        go_wp2
        go_ret
        exact ⟨rfl, hI.out, hT.out, hZ.out, hbl, none, 0, by rw [hx.out]; exact bS.out, .inl hx.out, fun x hx => by cases hx⟩
end Go.Proofs.Ytllmaiefjgfpmaa.Gen
