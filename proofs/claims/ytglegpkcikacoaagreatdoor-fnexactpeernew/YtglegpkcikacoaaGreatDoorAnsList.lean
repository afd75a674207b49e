/-
  Lists of answers: how they lie, what the laws' to, sz, eq, mark and held functions of them do; the argument opened. No condition but that there are at most 1048576, and the length that every text has.
-/
import Derived.Test.YtglegpkcikacoaaGreatDoorAns
import Derived.Test.YtglegpkcikacoaaGreatDoorMarkText
set_option linter.unusedVariables false
set_option linter.unusedSimpArgs false
set_option maxRecDepth 100000
set_option maxHeartbeats 8000000
namespace Go.Proofs.YtglegpkcikacoaaGreatDoor.Gen
open ChangeShapes WideShapes ChangeAt RowKit Joins Deep Base
structure An where
  code : Int
  n : Int
  key : ByteArray
  text : ByteArray
instance : Inhabited An := ⟨⟨0, 0, ⟨#[]⟩, ⟨#[]⟩⟩⟩
instance : Cel An where
  k := 4
  cs x := [.int .i64 x.code, .int .i64 x.n, .string x.key, .string x.text]
  len _ := rfl
  one x u hu := by simp at hu; rcases hu with rfl | rfl | rfl | rfl<;>rfl
def An.right (x : An) : Prop := I64 x.code /\ I64 x.n /\ x.key.size <= 9223372036854775807 /\ x.text.size <= 9223372036854775807
theorem In.getAn {w : World} {b o : Nat} {l : List An} (h : In w b o l) (i : Nat) (hi : i < l.length) :
 w.cell? ⟨b, o + i * 4, none⟩ = some (.int .i64 l[i].code) /\ w.cell? ⟨b, o + i * 4 + 1, none⟩ = some (.int .i64 l[i].n) /\ w.cell? ⟨b, o + i * 4 + 2, none⟩ = some (.string l[i].key) /\ w.cell? ⟨b, o + i * 4 + 3, none⟩ = some (.string l[i].text) :=
 ⟨h.cell i hi (f := 0) rfl, h.cell i hi (f := 1) rfl, h.cell i hi (f := 2) rfl, h.cell i hi (f := 3) rfl⟩
theorem infoAn : (Tryz.prog.info? 122).map (fun i => (i.zero, i.size, i.bytes)) = some (some (.agg #[.int .i64 0, .int .i64 0, .string ⟨#[]⟩, .string ⟨#[]⟩]), 4, 48) := by kernel_rfl
theorem Qhg (code n : Int) (k t : ByteArray) (w : World) :
 Calls Tryz.prog 119 #[.agg #[.int .i64 code, .int .i64 n, .string k, .string t], .agg #[.int .i64 code, .int .i64 n, .string k, .string t]] w fun e w' => e = .returned (.bool true) /\ Below w.heap.size w w' := by
 go_enter Tryz.func119, Tryz.ntmps119
 go_wp2
 go_ret
 exact ⟨rfl, by repeat (first | exact Below.refl _ _ | assumption | refine via0 (by assumption) ?_ | refine Below.drew ?_ | refine Qaa ?_ _)⟩
theorem Qgf (A A' : Option Addr) (cap cap' : Nat) (l : List An) (hl : l.length <= 9223372036854775807) (w : World) (hA : At w A l) (hA' : At w A' l) :
 Calls Tryz.prog 60 #[.slice A l.length cap, .slice A' l.length cap'] w fun e w' => e = .returned (.bool true) /\ Below w.heap.size w w' := by
 have HA := hidP hA
 have HA' := hidP hA'
 clear hA hA'
 go_enter Tryz.func60, Tryz.ntmps60
 go_wp2
 go_loopw [5] (fun i w' => ∃ (n : Nat), i = .int .i64 (n : Int) /\ n <= l.length /\ Below w.heap.size w w') (fun i _ => l.length - (intOf i).toNat)
 case atStart => exact ⟨0, rfl, by omega, Below.refl _ _⟩
 case round =>
  obtain ⟨n, rfl, hn, hbl⟩ := hrel
  by_cases hlt : n < l.length
  . obtain ⟨b, o, rfl, hbs, hin⟩ : ∃ b o, A = some ⟨b, o, none⟩ /\ b < w.heap.size /\ In w b o l := by
     rcases HA.out with h | h
     . subst h; simp at hlt
     . exact h
    obtain ⟨b', o', rfl, hbs', hin'⟩ : ∃ b o, A' = some ⟨b, o, none⟩ /\ b < w.heap.size /\ In w b o l := by
     rcases HA'.out with h | h
     . subst h; simp at hlt
     . exact h
    obtain ⟨c0, c1, c2, c3⟩ := (hin.below hbs hbl).getAn n hlt
    obtain ⟨d0, d1, d2, d3⟩ := (hin'.below hbs' hbl).getAn n hlt
    have hb1 : b < wr.heap.size := Nat.lt_of_lt_of_le hbs hbl.size
    have hb2 : b' < wr.heap.size := Nat.lt_of_lt_of_le hbs' hbl.size
    have hi0 : (0 : Int) <= (n : Int) := by omega
    have hi1 : (n : Int) < (l.length : Int) := by omega
    go_wp2
    go_region_held3 (fun w' => w'.cell? ⟨b, o + n * 4, none⟩ = some (.int .i64 l[n].code) /\ w'.cell? ⟨b, o + n * 4 + 1, none⟩ = some (.int .i64 l[n].n) /\ w'.cell? ⟨b, o + n * 4 + 2, none⟩ = some (.string l[n].key) /\ w'.cell? ⟨b, o + n * 4 + 3, none⟩ = some (.string l[n].text) /\
     w'.cell? ⟨b', o' + n * 4, none⟩ = some (.int .i64 l[n].code) /\ w'.cell? ⟨b', o' + n * 4 + 1, none⟩ = some (.int .i64 l[n].n) /\ w'.cell? ⟨b', o' + n * 4 + 2, none⟩ = some (.string l[n].key) /\ w'.cell? ⟨b', o' + n * 4 + 3, none⟩ = some (.string l[n].text) /\ wr.heap.size <= w'.heap.size)
     (first | (go_split_ands; refine ⟨?_, ?_, ?_, ?_, ?_, ?_, ?_, ?_, ?_⟩<;>first | assumption | exact (k1 _ _ hb1).trans (by assumption) | exact (k1 _ _ hb2).trans (by assumption) | exact s1 | (simp; done)) | go_keep)
     (first
      | (go_at_call 119; refine (Qhg _ _ _ _ _).mono ?_; rintro e w1 ⟨rfl, g1⟩; obtain ⟨k1, m1⟩ := Qaj g1; have s1 := g1.size))
    all_goals
     go_wp2
     exact ⟨⟨n + 1, by go_num, by omega, via0 g1 hbl.drew⟩, by simp [intOf]; omega⟩
  . go_wp2
    go_ret
    exact ⟨rfl, hbl⟩
def markAn (z : Int) : An := ⟨z, z + 1, Items.markZ (z + 2), Items.markZ (z + 3)⟩
def Qbd (n : Nat) (z : Int) : List An := (List.range n).map fun (i : Nat) => markAn (z + (i : Int) * 4)
theorem Qb4 (n : Nat) (z : Int) : (Qbd n z).length = n := by simp [Qbd]
theorem Qin (n : Nat) (z : Int) : Qbd (n + 1) z = Qbd n z ++ [markAn (z + (n : Int) * 4)] := by simp [Qbd, List.range_succ]
theorem Qj6 (n : Nat) (z : Int) (i : Nat) (h : i < (Qbd n z).length) : (Qbd n z)[i] = markAn (z + (i : Int) * 4) := by simp [Qbd]
theorem Qio (n : Nat) (k z : Int) (hz : z = k + (n : Int) * 4) :
 flat (Qbd n k) ++ [.int .i64 z] ++ [.int .i64 (z + 1)] ++ [.string (Items.markZ (z + 1 + 1))] ++ [.string (Items.markZ (z + 1 + 1 + 1))] = flat (Qbd (n + 1) k) := by
 subst hz
 have e2 : ∀ z : Int, z + 1 + 1 = z + 2 := fun z => by omega
 have e3 : ∀ z : Int, z + 1 + 1 + 1 = z + 3 := fun z => by omega
 rw [Qin, Qa1, Qbp, e3, e2]
 simp [Cel.cs, markAn]
theorem Qfa (b o cap m : Nat) (k : Int) (hk : 1 <= k) (hk' : k <= 100000000) (hm : m <= 1048576) (w : World) (hb : b < w.heap.size) (hth : w.there b o (m * 4)) :
 Calls Tryz.prog 67 #[.slice (some ⟨b, o, none⟩) m cap, .int .i64 k] w fun e w' => e = .returned (.int .i64 (k + (m : Int) * 4)) /\ Only b w w' /\ In w' b o (Qbd m k) /\ w'.there b o (m * 4) := by
 have HT := hidP hth
 clear hth
 go_enter Tryz.func67, Tryz.ntmps67
 go_wp2
 go_loopw [1, 5] (fun kk i w' => ∃ (n : Nat) (z : Int), i = .int .i64 (n : Int) /\ kk = .int .i64 z /\ n <= m /\ 1 <= z /\ z <= 900000000 /\ Only b w w' /\ Hid (z = k + (n : Int) * 4) /\ Hid (In w' b o (Qbd n k)) /\ Hid (w'.there b o (m * 4))) (fun _ i _ => m - (intOf i).toNat)
 case atStart => exact ⟨0, k, rfl, rfl, by omega, hk, by omega, Only.refl _ _, by simp [Hid], In.nil _ _ _, HT.out⟩
 case round =>
  obtain ⟨n, z, rfl, rfl, hn, hz1, hz2, ho, hz, hin, hth⟩ := hrel
  by_cases hlt : n < m
  . obtain ⟨⟨v0, d0⟩, f0⟩ := Qaf (f := 0) hth.out hlt (by omega)
    rw [Nat.add_zero] at d0 f0
    obtain ⟨⟨v1, d1⟩, f1⟩ := Qaf (f := 1) hth.out hlt (by omega)
    obtain ⟨⟨v2, d2⟩, f2⟩ := Qaf (f := 2) hth.out hlt (by omega)
    obtain ⟨⟨v3, d3⟩, f3⟩ := Qaf (f := 3) hth.out hlt (by omega)
    have q1 : b < wr.heap.size := Nat.lt_of_lt_of_le hb ho.size
    go_wp2_with (go_at_call 70; refine (Items.markText_at _ ?_ ?_ _).mono ?_; omega; omega; rintro e w1 ⟨rfl, g1⟩; obtain ⟨k1, m1⟩ := Qaj g1; have s1 := g1.size; have q1 : b < w1.heap.size := (by first | exact Qi0 q1 s1 | exact Qi0 (Qi0 q1 (Nat.le_refl _)) s1))
    have hlen : (flat (Qbd n k)).length = n * 4 := by rw [Qap, Qb4]; rfl
    have P0 := push (v := .int .i64 z) (q := o + n * 4) ⟨hin.out, hth.out, Nat.lt_of_lt_of_le hb ho.size⟩ (by rw [hlen]; omega) (by rw [hlen])
    have P1 := push (v := .int .i64 (z + 1)) (q := o + n * 4 + 1) P0 (by simp [hlen]; omega) (by simp [hlen]; omega)
    have P2 := push (v := .string (Items.markZ (z + 1 + 1))) (q := o + n * 4 + 2) (Qeq P1 (by assumption)) (by simp [hlen]; omega) (by simp [hlen]; omega)
    have P3 := push (v := .string (Items.markZ (z + 1 + 1 + 1))) (q := o + n * 4 + 3) (Qeq P2 g1) (by simp [hlen]; omega) (by simp [hlen]; omega)
    rw [Qio n k z hz.out] at P3
    have hz' := hz.out
    refine ⟨⟨n + 1, z + 1 + 1 + 1 + 1, by go_num, rfl, by omega, by omega, by omega, ?_, by show z + 1 + 1 + 1 + 1 = _; omega, P3.1, P3.2.1⟩, by simp [intOf]; omega⟩
    exact (((((ho.set _ _).set _ _).below (by assumption)).set _ _).below g1).set _ _
  . obtain rfl : n = m := by omega
    go_wp2
    go_ret
    have e := hz.out
    subst e
    exact ⟨rfl, ho, hin.out, hth.out⟩
theorem Qfh (A : Option Addr) (cap m : Nat) (k : Int) (hk : 1 <= k) (hk' : k <= 100000000) (hm : m <= 1048576) (w : World)
 (hA : m = 0 ∨ ∃ b o, A = some ⟨b, o, none⟩ /\ b < w.heap.size /\ In w b o (Qbd m k)) :
 Calls Tryz.prog 75 #[.slice A m cap, .int .i64 k] w fun e w' => e = .returned (.int .i64 (k + (m : Int) * 4)) /\ Below w.heap.size w w' := by
 have HA := hidP hA
 clear hA
 go_enter Tryz.func75, Tryz.ntmps75
 go_wp2
 go_loopw [1, 5] (fun kk i w' => ∃ (n : Nat) (z : Int), i = .int .i64 (n : Int) /\ kk = .int .i64 z /\ n <= m /\ 1 <= z /\ z <= 900000000 /\ Hid (z = k + (n : Int) * 4) /\ Below w.heap.size w w') (fun _ i _ => m - (intOf i).toNat)
 case atStart => exact ⟨0, k, rfl, rfl, by omega, hk, by omega, by simp [Hid], Below.refl _ _⟩
 case round =>
  obtain ⟨n, z, rfl, rfl, hn, hz1, hz2, hz, hbl⟩ := hrel
  by_cases hlt : n < m
  . obtain ⟨b, o, rfl, hbs, hin⟩ : ∃ b o, A = some ⟨b, o, none⟩ /\ b < w.heap.size /\ In w b o (Qbd m k) := by
     rcases HA.out with h | h
     . omega
     . exact h
    have hb1 : b < wr.heap.size := Nat.lt_of_lt_of_le hbs hbl.size
    obtain ⟨c0, c1, c2, c3⟩ : wr.cell? ⟨b, o + n * 4, none⟩ = some (.int .i64 z) /\ wr.cell? ⟨b, o + n * 4 + 1, none⟩ = some (.int .i64 (z + 1)) /\ wr.cell? ⟨b, o + n * 4 + 2, none⟩ = some (.string (Items.markZ (z + 1 + 1))) /\
     wr.cell? ⟨b, o + n * 4 + 3, none⟩ = some (.string (Items.markZ (z + 1 + 1 + 1))) := by
     have h := (hin.below hbs hbl).getAn n (by rw [Qb4]; exact hlt)
     rw [Qj6] at h
     have e2 : z + 1 + 1 = z + 2 := by omega
     have e3 : z + 1 + 1 + 1 = z + 3 := by omega
     rw [e3, e2, hz.out]
     exact h
    have hi0 : (0 : Int) <= (n : Int) := by omega
    have hi1 : (n : Int) < (m : Int) := by omega
    go_wp2
    go_region_held3 (fun w' => w'.cell? ⟨b, o + n * 4 + 2, none⟩ = some (.string (Items.markZ (z + 1 + 1))) /\ w'.cell? ⟨b, o + n * 4 + 3, none⟩ = some (.string (Items.markZ (z + 1 + 1 + 1))) /\ b < w'.heap.size)
     (first | (go_split_ands; refine ⟨?_, ?_, ?_⟩<;>first | assumption | exact (k1 _ _ (by assumption)).trans (by assumption) | exact Nat.lt_of_lt_of_le (by assumption) s1 | (simp; done)) | go_keep)
     (first
      | (go_at_call 70; refine (Items.markText_at _ ?_ ?_ _).mono ?_; omega; omega; rintro e w1 ⟨rfl, g1⟩; obtain ⟨k1, m1⟩ := Qaj g1; have s1 := g1.size))
    go_split_ands
    go_wp2
    go_region_held3 (fun w' => w'.cell? ⟨b, o + n * 4 + 3, none⟩ = some (.string (Items.markZ (z + 1 + 1 + 1))) /\ b < w'.heap.size)
     (first | (go_split_ands; refine ⟨?_, ?_⟩<;>first | assumption | exact (k2 _ _ (by assumption)).trans (by assumption) | exact Nat.lt_of_lt_of_le (by assumption) s2 | (simp; done)) | go_keep)
     (first
      | (go_at_call 70; refine (Items.markText_at _ ?_ ?_ _).mono ?_; omega; omega; rintro e w2 ⟨rfl, g2⟩; obtain ⟨k2, m2⟩ := Qaj g2; have s2 := g2.size))
    go_split_ands
    go_wp2
    have hz' := hz.out
    exact ⟨⟨n + 1, z + 1 + 1 + 1 + 1, by go_num, rfl, by omega, by omega, by omega, by show z + 1 + 1 + 1 + 1 = _; omega, via0 g2 (via0 g1 hbl.drew).drew⟩, by simp [intOf]; omega⟩
  . obtain rfl : n = m := by omega
    go_wp2
    go_ret
    have e := hz.out
    subst e
    exact ⟨rfl, hbl⟩
end Go.Proofs.YtglegpkcikacoaaGreatDoor.Gen
namespace Go.Proofs.YtglegpkcikacoaaGreatDoor.Items
open ChangeShapes WideShapes ChangeAt RowKit Base
structure It where
  off : Int
  key : ByteArray
  text : ByteArray
  who : Int
  time : Int
def It.cs (x : It) : List Value := [.int .i64 x.off, .string x.key, .string x.text, .int .i64 x.who, .int .i64 x.time]
def flat (l : List It) : List Value := l.flatMap It.cs
theorem It.cs_length (x : It) : x.cs.length = 5 := rfl
theorem Qap (l : List It) : (flat l).length = l.length * 5 := by
 induction l with
 | nil => rfl
 | cons a l ih => simp only [flat, List.flatMap_cons, List.length_append, List.length_cons] at ih ⊢; rw [ih, It.cs_length]; omega
theorem Qa1 (l m : List It) : flat (l ++ m) = flat l ++ flat m := by simp [flat]
theorem Qbp (x : It) : flat [x] = x.cs := by simp [flat]
theorem Qcx (x : It) (l : List It) : flat (x :: l) = x.cs ++ flat l := by simp [flat]
theorem Qd3 (l : List It) : ∀ (i : Nat) (h : i < l.length) (f : Nat), f < 5 -> (flat l)[i * 5 + f]? = (l[i].cs)[f]? := by
 induction l with
 | nil => intro i h; simp at h
 | cons a l ih =>
  intro i h f hf
  rw [Qcx]
  cases i with
  | zero => rw [List.getElem?_append_left (by rw [It.cs_length]; omega)]; simp
  | succ i =>
   rw [List.getElem?_append_right (by rw [It.cs_length]; omega), It.cs_length]
   have e : (i + 1) * 5 + f - 5 = i * 5 + f := by omega
   rw [e, ih i (by simpa using h) f hf]; simp
def In (w : World) (b o : Nat) (l : List It) : Prop := w.rangeAt b o (flat l)
theorem In.get {w : World} {b o : Nat} {l : List It} (h : In w b o l) (i : Nat) (hi : i < l.length) :
 w.cell? ⟨b, o + i * 5, none⟩ = some (.int .i64 l[i].off) /\ w.cell? ⟨b, o + i * 5 + 1, none⟩ = some (.string l[i].key) /\ w.cell? ⟨b, o + i * 5 + 2, none⟩ = some (.string l[i].text) /\
 w.cell? ⟨b, o + i * 5 + 3, none⟩ = some (.int .i64 l[i].who) /\ w.cell? ⟨b, o + i * 5 + 4, none⟩ = some (.int .i64 l[i].time) := by
 have g : ∀ f v, f < 5 -> (l[i].cs)[f]? = some v -> w.cell? ⟨b, o + (i * 5 + f), none⟩ = some v := fun f v hf hv => h (i * 5 + f) v (by rw [Qd3 l i hi f hf]; exact hv)
 exact ⟨g 0 _ (by omega) rfl, g 1 _ (by omega) rfl, g 2 _ (by omega) rfl, g 3 _ (by omega) rfl, g 4 _ (by omega) rfl⟩
theorem In.below {w w' : World} {b o : Nat} {l : List It} (h : In w b o l) (hb : b < w.heap.size) (hw : Below w.heap.size w w') : In w' b o l :=
 fun j v hv => (hw.cell (p := ⟨b, o + j, none⟩) hb).trans (h j v hv)
theorem via0 {a b c : World} (k : Below b.heap.size b c) (h : Below a.heap.size a b) : Below a.heap.size a c := h.trans (k.mono h.size)
theorem Qaa {a b : World} (h : Below a.heap.size a b) (o : Obj) : Below a.heap.size a (b.alloc o) := h.alloc h.size o
def tot : List It -> Nat
  | [] => 0
  | x :: l => x.key.size + x.text.size + tot l
def It.v (x : It) : Value := .agg #[.int .i64 x.off, .string x.key, .string x.text, .int .i64 x.who, .int .i64 x.time]
def Qfx (k t : ByteArray) (who time : Int) : Bool := textB k && textB t && inB who 0 3 && inB time 0 100000
def Qdd (x : It) : Bool := Qfx x.key x.text x.who x.time
theorem four (p q r s : Bool) : p = false ∨ (p = true /\ q = false) ∨ (p = true /\ q = true /\ r = false) ∨ (p = true /\ q = true /\ r = true /\ s = false) ∨ (p = true /\ q = true /\ r = true /\ s = true) := by
 cases p<;>cases q<;>cases r<;>cases s<;>simp
theorem Qh1 (off who time : Int) (k t : ByteArray) (hk : k.size <= 9223372036854775807) (ht : t.size <= 9223372036854775807) (w : World) :
 Calls Tryz.prog 126 #[.agg #[.int .i64 off, .string k, .string t, .int .i64 who, .int .i64 time]] w fun e w' => e = .returned (.bool (Qfx k t who time)) /\ Below w.heap.size w w' := by
 rcases four (textB k) (textB t) (inB who 0 3) (inB time 0 100000) with h1 | ⟨h1, h2⟩ | ⟨h1, h2, h3⟩ | ⟨h1, h2, h3, h4⟩ | ⟨h1, h2, h3, h4⟩
 all_goals
  go_enter Tryz.func126, Tryz.ntmps126
  have q1 : w.heap.size < w.heap.size + 1 := Nat.lt_succ_self _
  go_wp2_with (first
   | (go_at_call 11; refine (in_any _ _ _ _).mono ?_; rintro e w' ⟨rfl, rfl⟩)
   | (go_at_call_of 127 (Value.string k); refine (specText_any k hk _).mono ?_; rintro e w1 ⟨rfl, g1⟩; obtain ⟨c1, f1⟩ := Qaj g1; have s1 := g1.size; try simp at s1; have q1 : w.heap.size < w1.heap.size := by omega)
   | (go_at_call_of 127 (Value.string t); refine (specText_any t ht _).mono ?_; rintro e w1 ⟨rfl, g1⟩; obtain ⟨c1, f1⟩ := Qaj g1; have s1 := g1.size; try simp at s1; have q1 : w.heap.size < w1.heap.size := by omega))
  go_ret
  refine ⟨by simp [Qfx, *], ?_⟩
  repeat (first | exact Below.refl _ _ | refine via0 (by assumption) ?_ | refine Below.drew ?_ | refine Qaa ?_ _)
def chain (start nb : Int) : Option Int -> List It -> Bool
  | _, [] => true
  | p, x :: l => Qdd x && inB x.off start nb && (match p with | none => true | some o => decide (o < x.off)) && chain start nb (some x.off) l
def prevO (l : List It) (n : Nat) : Option Int := match n with
  | 0 => none
  | p + 1 => (l[p]?).map (·.off)
def Qah (start nb : Int) (l : List It) (n : Nat) : Bool := chain start nb (prevO l n) (l.drop n)
theorem Qho {start nb : Int} {l : List It} {n : Nat} (h : l.length <= n) : Qah start nb l n = true := by
 unfold Qah; rw [List.drop_eq_nil_of_le h]; rfl
def ordB (l : List It) (n : Nat) (x : Int) : Bool := match prevO l n with
  | none => true
  | some o => decide (o < x)
theorem Qgh {start nb : Int} {l : List It} {n : Nat} (h : n < l.length) :
 Qah start nb l n = (Qdd l[n] && inB l[n].off start nb && ordB l n l[n].off && Qah start nb l (n + 1)) := by
 have e2 : prevO l (n + 1) = some l[n].off := by simp [prevO, List.getElem?_eq_getElem h]
 unfold Qah ordB
 rw [e2, List.drop_eq_getElem_cons h]
 cases prevO l n<;>rfl
theorem ordB_zero (l : List It) (x : Int) : ordB l 0 x = true := rfl
theorem ordB_succ {l : List It} {p : Nat} (h : p < l.length) (x : Int) : ordB l (p + 1) x = decide (l[p].off < x) := by
 simp [ordB, prevO, List.getElem?_eq_getElem h]
def rowB (start next : Int) (l : List It) : Bool := Qah start (next - 1) l 0 && inB start 0 next && decide (next <= 100000) && decide (l.length <= 80)
theorem Qcf (v : Bool) (off who time : Int) (k t : ByteArray) (hk : k.size <= 9223372036854775807) (ht : t.size <= 9223372036854775807) (h : Hid (Qfx k t who time = v)) (w : World) :
 Calls Tryz.prog 126 #[.agg #[.int .i64 off, .string k, .string t, .int .i64 who, .int .i64 time]] w fun e w' => e = .returned (.bool v) /\ Below w.heap.size w w' := by
 have := Qh1 off who time k t hk ht w
 rw [h.out] at this
 exact this
theorem in_is (v : Bool) (x lo hi : Int) (h : Hid (inB x lo hi = v)) (w : World) :
 Calls Tryz.prog 11 #[.int .i64 x, .int .i64 lo, .int .i64 hi] w fun e w' => e = .returned (.bool v) /\ w' = w := by
 have := in_any x lo hi w
 rw [h.out] at this
 exact this
end Go.Proofs.YtglegpkcikacoaaGreatDoor.Items
namespace Go.Proofs.YtglegpkcikacoaaGreatDoor.Gen
open ChangeShapes WideShapes ChangeAt RowKit Joins Deep Base
instance : Cel Int where
  k := 1
  cs x := [.int .i64 x]
  len _ := rfl
  one x u hu := by simp at hu; subst hu; rfl
theorem In.getInt {w : World} {b o : Nat} {l : List Int} (h : In w b o l) (i : Nat) (hi : i < l.length) : w.cell? ⟨b, o + i, none⟩ = some (.int .i64 l[i]) := by
 have := h.cell i hi (f := 0) rfl
 have e : o + i * Cel.k Int + 0 = o + i := by show o + i * 1 + 0 = o + i; omega
 rwa [e] at this
theorem Qhz {w : World} {b o m n : Nat} (h : w.there b o (m * 1)) (hn : n < m) : (∃ v, w.cell? ⟨b, o + n, none⟩ = some v) /\ w.frozen? ⟨b, o + n, none⟩ = false := by
 have := Qaf (f := 0) h hn (by omega)
 rwa [Nat.mul_one, Nat.add_zero] at this
theorem Qcp : (Tryz.prog.info? 3).map (fun i => (i.zero, i.size, i.bytes)) = some (some (.int .i64 0), 1, 8) := by kernel_rfl
theorem Qcd (A A' : Option Addr) (cap cap' : Nat) (l : List Int) (hl : l.length <= 9223372036854775807) (w : World) (hA : At w A l) (hA' : At w A' l) :
 Calls Tryz.prog 22 #[.slice A l.length cap, .slice A' l.length cap'] w fun e w' => e = .returned (.bool true) /\ Below w.heap.size w w' := by
 have HA : Hid (At w A l) := hA
 have HA' : Hid (At w A' l) := hA'
 clear hA hA'
 go_enter Tryz.func22, Tryz.ntmps22
 go_wp2
 go_loopw [5] (fun i w' => ∃ (n : Nat), i = .int .i64 (n : Int) /\ n <= l.length /\ Below w.heap.size w w') (fun i _ => l.length - (intOf i).toNat)
 case atStart => exact ⟨0, rfl, by omega, Below.refl _ _⟩
 case round =>
  obtain ⟨n, rfl, hn, hbl⟩ := hrel
  by_cases hlt : n < l.length
  . obtain ⟨b, o, rfl, hbs, hin⟩ : ∃ b o, A = some ⟨b, o, none⟩ /\ b < w.heap.size /\ In w b o l := by
     rcases HA.out with h | h
     . subst h; simp at hlt
     . exact h
    obtain ⟨b', o', rfl, hbs', hin'⟩ : ∃ b o, A' = some ⟨b, o, none⟩ /\ b < w.heap.size /\ In w b o l := by
     rcases HA'.out with h | h
     . subst h; simp at hlt
     . exact h
    have c0 := (hin.below hbs hbl).getInt n hlt
    have d0 := (hin'.below hbs' hbl).getInt n hlt
    have hi0 : (0 : Int) <= (n : Int) := by omega
    have hi1 : (n : Int) < (l.length : Int) := by omega
    go_wp2
    go_region
    all_goals
     go_wp2
     exact ⟨⟨n + 1, by go_num, by omega, by repeat (first | exact hbl | refine Below.drew ?_)⟩, by simp [intOf]; omega⟩
  . go_wp2
    go_ret
    exact ⟨rfl, hbl⟩
def Qae (n : Nat) (z : Int) : List Int := (List.range n).map fun (i : Nat) => z + (i : Int)
theorem Qan (n : Nat) (z : Int) : (Qae n z).length = n := by simp [Qae]
theorem Qg2 (n : Nat) (z : Int) : Qae (n + 1) z = Qae n z ++ [z + (n : Int)] := by simp [Qae, List.range_succ]
theorem Qik (n : Nat) (z : Int) (i : Nat) (h : i < (Qae n z).length) : (Qae n z)[i] = z + (i : Int) := by simp [Qae]
theorem Qkc (b o cap m : Nat) (k : Int) (hk : 1 <= k) (hk' : k <= 100000000) (hm : m <= 2000000) (w : World) (hb : b < w.heap.size) (hth : w.there b o (m * 1)) :
 Calls Tryz.prog 28 #[.slice (some ⟨b, o, none⟩) m cap, .int .i64 k] w fun e w' => e = .returned (.int .i64 (k + (m : Int))) /\ Only b w w' /\ In w' b o (Qae m k) /\ w'.there b o (m * 1) := by
 have HT : Hid (w.there b o (m * 1)) := hth
 clear hth
 go_enter Tryz.func28, Tryz.ntmps28
 go_wp2
 go_loopw [1, 5] (fun kk i w' => ∃ (n : Nat) (z : Int), i = .int .i64 (n : Int) /\ kk = .int .i64 z /\ n <= m /\ 1 <= z /\ z <= 900000000 /\ Only b w w' /\ Hid (z = k + (n : Int)) /\ Hid (In w' b o (Qae n k)) /\ Hid (w'.there b o (m * 1))) (fun _ i _ => m - (intOf i).toNat)
 case atStart => exact ⟨0, k, rfl, rfl, by omega, hk, by omega, Only.refl _ _, by simp [Hid], fun j v hv => by simp [Qae, flat] at hv, HT.out⟩
 case round =>
  obtain ⟨n, z, rfl, rfl, hn, hz1, hz2, ho, hz, hin, hth⟩ := hrel
  by_cases hlt : n < m
  . obtain ⟨⟨v0, d0⟩, f0⟩ := Qhz hth.out hlt
    have q1 : b < wr.heap.size := Nat.lt_of_lt_of_le hb ho.size
    go_wp2
    have hlen : (flat (Qae n k)).length = n := by rw [Qap, Qan]; show n * 1 = n; omega
    have P0 := push (v := .int .i64 z) (q := o + n) ⟨hin.out, hth.out, q1⟩ (by simp [hlen]; omega) (by simp [hlen])
    have e : flat (Qae n k) ++ [Value.int .i64 z] = flat (Qae (n + 1) k) := by rw [Qg2, Qa1, Qbp, hz.out]; rfl
    rw [e] at P0
    have hz' := hz.out
    refine ⟨⟨n + 1, z + 1, by go_num, rfl, by omega, by omega, by omega, ?_, by show z + 1 = _; omega, P0.1, P0.2.1⟩, by simp [intOf]; omega⟩
    exact ho.set _ _
  . obtain rfl : n = m := by omega
    go_wp2
    go_ret
    have e := hz.out
    subst e
    exact ⟨rfl, ho, hin.out, hth.out⟩
theorem Qiv (A : Option Addr) (cap : Nat) (k : Int) (w : World) :
 Calls Tryz.prog 28 #[.slice A 0 cap, .int .i64 k] w fun e w' => e = .returned (.int .i64 k) /\ w' = w := by
 go_enter Tryz.func28, Tryz.ntmps28
 go_wp2
 go_loopw [1, 5] (fun kk i w' => kk = .int .i64 k /\ i = .int .i64 0 /\ w' = w) (fun _ _ _ => 0)
 case atStart => exact ⟨rfl, rfl, rfl⟩
 case round =>
  obtain ⟨rfl, rfl, rfl⟩ := hrel
  go_wp2
  go_ret
  exact ⟨rfl, rfl⟩
theorem Qb3 (A : Option Addr) (cap m : Nat) (k : Int) (hk : 1 <= k) (hk' : k <= 100000000) (hm : m <= 2000000) (w : World)
 (hA : m = 0 ∨ ∃ b o, A = some ⟨b, o, none⟩ /\ b < w.heap.size /\ In w b o (Qae m k)) :
 Calls Tryz.prog 34 #[.slice A m cap, .int .i64 k] w fun e w' => e = .returned (.int .i64 (k + (m : Int))) /\ Below w.heap.size w w' := by
 have HA : Hid (m = 0 ∨ ∃ b o, A = some ⟨b, o, none⟩ /\ b < w.heap.size /\ In w b o (Qae m k)) := hA
 clear hA
 go_enter Tryz.func34, Tryz.ntmps34
 go_wp2
 go_loopw [1, 5] (fun kk i w' => ∃ (n : Nat) (z : Int), i = .int .i64 (n : Int) /\ kk = .int .i64 z /\ n <= m /\ 1 <= z /\ z <= 900000000 /\ Hid (z = k + (n : Int)) /\ Below w.heap.size w w') (fun _ i _ => m - (intOf i).toNat)
 case atStart => exact ⟨0, k, rfl, rfl, by omega, hk, by omega, by simp [Hid], Below.refl _ _⟩
 case round =>
  obtain ⟨n, z, rfl, rfl, hn, hz1, hz2, hz, hbl⟩ := hrel
  by_cases hlt : n < m
  . obtain ⟨b, o, rfl, hbs, hin⟩ : ∃ b o, A = some ⟨b, o, none⟩ /\ b < w.heap.size /\ In w b o (Qae m k) := by
     rcases HA.out with h | h
     . omega
     . exact h
    have c0 : wr.cell? ⟨b, o + n, none⟩ = some (.int .i64 z) := by
     have h := (hin.below hbs hbl).getInt n (by rw [Qan]; exact hlt)
     rw [Qik] at h
     rw [hz.out]
     exact h
    have hi0 : (0 : Int) <= (n : Int) := by omega
    have hi1 : (n : Int) < (m : Int) := by omega
    go_wp2
    try go_region
    all_goals
     try go_wp2
     have hz' := hz.out
     exact ⟨⟨n + 1, z + 1, by go_num, rfl, by omega, by omega, by omega, by show z + 1 = _; omega, by repeat (first | exact hbl | refine Below.drew ?_)⟩, by simp [intOf]; omega⟩
  . obtain rfl : n = m := by omega
    go_wp2
    go_ret
    have e := hz.out
    subst e
    exact ⟨rfl, hbl⟩
instance : Cel Bool where
  k := 1
  cs x := [.bool x]
  len _ := rfl
  one x u hu := by simp at hu; subst hu; rfl
theorem In.getBool {w : World} {b o : Nat} {l : List Bool} (h : In w b o l) (i : Nat) (hi : i < l.length) : w.cell? ⟨b, o + i, none⟩ = some (.bool l[i]) := by
 have := h.cell i hi (f := 0) rfl
 have e : o + i * Cel.k Bool + 0 = o + i := by show o + i * 1 + 0 = o + i; omega
 rwa [e] at this
theorem infoBool : (Tryz.prog.info? 4).map (fun i => (i.zero, i.size, i.bytes)) = some (some (.bool false), 1, 1) := by kernel_rfl
theorem Qku (A A' : Option Addr) (cap cap' : Nat) (l : List Bool) (hl : l.length <= 9223372036854775807) (w : World) (hA : At w A l) (hA' : At w A' l) :
 Calls Tryz.prog 21 #[.slice A l.length cap, .slice A' l.length cap'] w fun e w' => e = .returned (.bool true) /\ Below w.heap.size w w' := by
 have HA : Hid (At w A l) := hA
 have HA' : Hid (At w A' l) := hA'
 clear hA hA'
 go_enter Tryz.func21, Tryz.ntmps21
 go_wp2
 go_loopw [5] (fun i w' => ∃ (n : Nat), i = .int .i64 (n : Int) /\ n <= l.length /\ Below w.heap.size w w') (fun i _ => l.length - (intOf i).toNat)
 case atStart => exact ⟨0, rfl, by omega, Below.refl _ _⟩
 case round =>
  obtain ⟨n, rfl, hn, hbl⟩ := hrel
  by_cases hlt : n < l.length
  . obtain ⟨b, o, rfl, hbs, hin⟩ : ∃ b o, A = some ⟨b, o, none⟩ /\ b < w.heap.size /\ In w b o l := by
     rcases HA.out with h | h
     . subst h; simp at hlt
     . exact h
    obtain ⟨b', o', rfl, hbs', hin'⟩ : ∃ b o, A' = some ⟨b, o, none⟩ /\ b < w.heap.size /\ In w b o l := by
     rcases HA'.out with h | h
     . subst h; simp at hlt
     . exact h
    have c0 := (hin.below hbs hbl).getBool n hlt
    have d0 := (hin'.below hbs' hbl).getBool n hlt
    have hi0 : (0 : Int) <= (n : Int) := by omega
    have hi1 : (n : Int) < (l.length : Int) := by omega
    go_wp2
    go_region
    all_goals
     go_wp2
     exact ⟨⟨n + 1, by go_num, by omega, by repeat (first | exact hbl | refine Below.drew ?_)⟩, by simp [intOf]; omega⟩
  . go_wp2
    go_ret
    exact ⟨rfl, hbl⟩
def Qao (n : Nat) (z : Int) : List Bool := (List.range n).map fun (i : Nat) => (z + (i : Int)) % 3 == 0
theorem Qbo (n : Nat) (z : Int) : (Qao n z).length = n := by simp [Qao]
theorem Qfz (n : Nat) (z : Int) : Qao (n + 1) z = Qao n z ++ [(z + (n : Int)) % 3 == 0] := by simp [Qao, List.range_succ]
theorem Qg3 (n : Nat) (z : Int) (i : Nat) (h : i < (Qao n z).length) : (Qao n z)[i] = ((z + (i : Int)) % 3 == 0) := by simp [Qao]
theorem Qiy (b o cap m : Nat) (k : Int) (hk : 1 <= k) (hk' : k <= 100000000) (hm : m <= 2000000) (w : World) (hb : b < w.heap.size) (hth : w.there b o (m * 1)) :
 Calls Tryz.prog 27 #[.slice (some ⟨b, o, none⟩) m cap, .int .i64 k] w fun e w' => e = .returned (.int .i64 (k + (m : Int))) /\ Only b w w' /\ In w' b o (Qao m k) /\ w'.there b o (m * 1) := by
 have HT : Hid (w.there b o (m * 1)) := hth
 clear hth
 go_enter Tryz.func27, Tryz.ntmps27
 go_wp2
 go_loopw [1, 5] (fun kk i w' => ∃ (n : Nat) (z : Int), i = .int .i64 (n : Int) /\ kk = .int .i64 z /\ n <= m /\ 1 <= z /\ z <= 900000000 /\ Only b w w' /\ Hid (z = k + (n : Int)) /\ Hid (In w' b o (Qao n k)) /\ Hid (w'.there b o (m * 1))) (fun _ i _ => m - (intOf i).toNat)
 case atStart => exact ⟨0, k, rfl, rfl, by omega, hk, by omega, Only.refl _ _, by simp [Hid], fun j v hv => by simp [Qao, flat] at hv, HT.out⟩
 case round =>
  obtain ⟨n, z, rfl, rfl, hn, hz1, hz2, ho, hz, hin, hth⟩ := hrel
  by_cases hlt : n < m
  . obtain ⟨⟨v0, d0⟩, f0⟩ := Qhz hth.out hlt
    have q1 : b < wr.heap.size := Nat.lt_of_lt_of_le hb ho.size
    go_wp2
    have hlen : (flat (Qao n k)).length = n := by rw [Qap, Qbo]; show n * 1 = n; omega
    have P0 := push (v := .bool (z % 3 == 0)) (q := o + n) ⟨hin.out, hth.out, q1⟩ (by simp [hlen]; omega) (by simp [hlen])
    have e : flat (Qao n k) ++ [Value.bool (z % 3 == 0)] = flat (Qao (n + 1) k) := by rw [Qfz, Qa1, Qbp, hz.out]; rfl
    rw [e] at P0
    have hz' := hz.out
    refine ⟨⟨n + 1, z + 1, by go_num, rfl, by omega, by omega, by omega, ?_, by show z + 1 = _; omega, P0.1, P0.2.1⟩, by simp [intOf]; omega⟩
    exact ho.set _ _
  . obtain rfl : n = m := by omega
    go_wp2
    go_ret
    have e := hz.out
    subst e
    exact ⟨rfl, ho, hin.out, hth.out⟩
theorem Qg5 (A : Option Addr) (cap : Nat) (k : Int) (w : World) :
 Calls Tryz.prog 27 #[.slice A 0 cap, .int .i64 k] w fun e w' => e = .returned (.int .i64 k) /\ w' = w := by
 go_enter Tryz.func27, Tryz.ntmps27
 go_wp2
 go_loopw [1, 5] (fun kk i w' => kk = .int .i64 k /\ i = .int .i64 0 /\ w' = w) (fun _ _ _ => 0)
 case atStart => exact ⟨rfl, rfl, rfl⟩
 case round =>
  obtain ⟨rfl, rfl, rfl⟩ := hrel
  go_wp2
  go_ret
  exact ⟨rfl, rfl⟩
theorem Qi9 (A : Option Addr) (cap m : Nat) (k : Int) (hk : 1 <= k) (hk' : k <= 100000000) (hm : m <= 2000000) (w : World)
 (hA : m = 0 ∨ ∃ b o, A = some ⟨b, o, none⟩ /\ b < w.heap.size /\ In w b o (Qao m k)) :
 Calls Tryz.prog 33 #[.slice A m cap, .int .i64 k] w fun e w' => e = .returned (.int .i64 (k + (m : Int))) /\ Below w.heap.size w w' := by
 have HA : Hid (m = 0 ∨ ∃ b o, A = some ⟨b, o, none⟩ /\ b < w.heap.size /\ In w b o (Qao m k)) := hA
 clear hA
 go_enter Tryz.func33, Tryz.ntmps33
 go_wp2
 go_loopw [1, 5] (fun kk i w' => ∃ (n : Nat) (z : Int), i = .int .i64 (n : Int) /\ kk = .int .i64 z /\ n <= m /\ 1 <= z /\ z <= 900000000 /\ Hid (z = k + (n : Int)) /\ Below w.heap.size w w') (fun _ i _ => m - (intOf i).toNat)
 case atStart => exact ⟨0, k, rfl, rfl, by omega, hk, by omega, by simp [Hid], Below.refl _ _⟩
 case round =>
  obtain ⟨n, z, rfl, rfl, hn, hz1, hz2, hz, hbl⟩ := hrel
  by_cases hlt : n < m
  . obtain ⟨b, o, rfl, hbs, hin⟩ : ∃ b o, A = some ⟨b, o, none⟩ /\ b < w.heap.size /\ In w b o (Qao m k) := by
     rcases HA.out with h | h
     . omega
     . exact h
    have c0 : wr.cell? ⟨b, o + n, none⟩ = some (.bool (z % 3 == 0)) := by
     have h := (hin.below hbs hbl).getBool n (by rw [Qbo]; exact hlt)
     rw [Qg3] at h
     rw [hz.out]
     exact h
    have hi0 : (0 : Int) <= (n : Int) := by omega
    have hi1 : (n : Int) < (m : Int) := by omega
    go_wp2
    try go_region
    all_goals
     try go_wp2
     have hz' := hz.out
     exact ⟨⟨n + 1, z + 1, by go_num, rfl, by omega, by omega, by omega, by show z + 1 = _; omega, by repeat (first | exact hbl | refine Below.drew ?_)⟩, by simp [intOf]; omega⟩
  . obtain rfl : n = m := by omega
    go_wp2
    go_ret
    have e := hz.out
    subst e
    exact ⟨rfl, hbl⟩
instance : Cel UInt8 where
  k := 1
  cs x := [.int .u8 (x.toNat : Int)]
  len _ := rfl
  one x u hu := by simp at hu; subst hu; rfl
theorem In.getB {w : World} {b o : Nat} {l : List UInt8} (h : In w b o l) (i : Nat) (hi : i < l.length) : w.cell? ⟨b, o + i, none⟩ = some (.int .u8 (l[i].toNat : Int)) := by
 have := h.cell i hi (f := 0) rfl
 have e : o + i * Cel.k UInt8 + 0 = o + i := by show o + i * 1 + 0 = o + i; omega
 rwa [e] at this
theorem there_one {w : World} {b o m n : Nat} (h : w.there b o (m * 1)) (hn : n < m) : (∃ v, w.cell? ⟨b, o + n, none⟩ = some v) /\ w.frozen? ⟨b, o + n, none⟩ = false := by
 have := Qaf (f := 0) h hn (by omega)
 rwa [Nat.mul_one, Nat.add_zero] at this
theorem infoB : (Tryz.prog.info? 5).map (fun i => (i.zero, i.size, i.bytes)) = some (some (.int .u8 0), 1, 1) := by kernel_rfl
theorem Qkz (B : Nat) (v : Value) (l m : List UInt8) (A : Option Addr) (cap : Nat) (w : World) (hB : B <= w.heap.size) (hv : w.ownsRow B 5 1 v l.length (flat l)) (hA : At w A m) (hlen : l.length + m.length <= 1000000000) :
 ∃ v' w', (Builtin.append_ #[37, 37] 37 #[v, .slice A m.length cap]).run Tryz.prog w = .ok v' w' /\ w'.ownsRow B 5 1 v' (l.length + m.length) (flat (l ++ m)) /\ w.grownBy w' v.ownBlock /\ (v'.ownBlock = v.ownBlock ∨ v'.ownBlock = some w.heap.size) := by
 obtain ⟨i0, hi, hz0, hz1, hz2⟩ := info_parts infoB
 by_cases h0 : m = []
 . subst h0
   have e0 : ∃ a n c, v = .slice a n c /\ n <= c := by
    rcases hv.2 with ⟨rfl, _⟩ | ⟨g, c, cur, rfl, _, _, h, _⟩
    . exact ⟨_, _, _, rfl, Nat.le_refl _⟩
    . exact ⟨_, _, _, rfl, h⟩
   obtain ⟨a, n, c, rfl, hle⟩ := e0
   exact ⟨_, _, run_append_nothing w 37 37 37 5 i0 Tryz.underlying37 hi a n c hle _ (hz1 ▸ Qep _ 37 5 Tryz.underlying37 A cap w), by simpa using hv, World.grownBy.refl _ _, .inl rfl⟩
 . obtain ⟨b, o, rfl, hb, hin⟩ := hA.resolve_left h0
   have hm : 0 < m.length := List.length_pos_iff.2 h0
   obtain ⟨g, c, w', hr, h1, h2, h3, h4⟩ := run_append_lies (P := Tryz.prog) w 37 37 B 5 i0 (.int .u8 0) 1 1 Tryz.underlying37 hi hz0 hz1 hz2 rfl (by decide) v l.length (flat l) hv ⟨b, o, none⟩ m.length cap (flat m) (Qap m)
    (fun j u hu => by rw [Addr.add_mid]; exact hin j u hu) (Qje m) hm (by simp [maxLen]; omega) (by omega) hB _ rfl
   exact ⟨_, _, hr, by rw [Qa1]; exact h1, h2, h3.imp (fun e => by rw [e]; rfl) (fun e => by rw [← e]; rfl)⟩
theorem eqB_same (A A' : Option Addr) (cap cap' : Nat) (l : List UInt8) (hl : l.length <= 9223372036854775807) (w : World) (hA : At w A l) (hA' : At w A' l) :
 Calls Tryz.prog 61 #[.slice A l.length cap, .slice A' l.length cap'] w fun e w' => e = .returned (.bool true) /\ Below w.heap.size w w' := by
 have HA : Hid (At w A l) := hA
 have HA' : Hid (At w A' l) := hA'
 clear hA hA'
 go_enter Tryz.func61, Tryz.ntmps61
 go_wp2
 go_loopw [5] (fun i w' => ∃ (n : Nat), i = .int .i64 (n : Int) /\ n <= l.length /\ Below w.heap.size w w') (fun i _ => l.length - (intOf i).toNat)
 case atStart => exact ⟨0, rfl, by omega, Below.refl _ _⟩
 case round =>
  obtain ⟨n, rfl, hn, hbl⟩ := hrel
  by_cases hlt : n < l.length
  . obtain ⟨b, o, rfl, hbs, hin⟩ : ∃ b o, A = some ⟨b, o, none⟩ /\ b < w.heap.size /\ In w b o l := by
     rcases HA.out with h | h
     . subst h; simp at hlt
     . exact h
    obtain ⟨b', o', rfl, hbs', hin'⟩ : ∃ b o, A' = some ⟨b, o, none⟩ /\ b < w.heap.size /\ In w b o l := by
     rcases HA'.out with h | h
     . subst h; simp at hlt
     . exact h
    have c0 := (hin.below hbs hbl).getB n hlt
    have d0 := (hin'.below hbs' hbl).getB n hlt
    have hi0 : (0 : Int) <= (n : Int) := by omega
    have hi1 : (n : Int) < (l.length : Int) := by omega
    go_wp2
    go_region
    all_goals
     go_wp2
     exact ⟨⟨n + 1, by go_num, by omega, by repeat (first | exact hbl | refine Below.drew ?_)⟩, by simp [intOf]; omega⟩
  . go_wp2
    go_ret
    exact ⟨rfl, hbl⟩
def u8 (z : Int) : UInt8 := UInt8.ofNat (z % 256).toNat
theorem u8_toNat (z : Int) : ((u8 z).toNat : Int) = z % 256 := by
 unfold u8
 rw [UInt8.toNat_ofNat']
 omega
def Qbg (n : Nat) (z : Int) : List UInt8 := (List.range n).map fun (i : Nat) => u8 (z + (i : Int))
theorem Qb9 (n : Nat) (z : Int) : (Qbg n z).length = n := by simp [Qbg]
theorem Qj5 (n : Nat) (z : Int) : Qbg (n + 1) z = Qbg n z ++ [u8 (z + (n : Int))] := by simp [Qbg, List.range_succ]
theorem marksB_get (n : Nat) (z : Int) (i : Nat) (h : i < (Qbg n z).length) : (Qbg n z)[i] = u8 (z + (i : Int)) := by simp [Qbg]
theorem markB_any (b o cap m : Nat) (k : Int) (hk : 1 <= k) (hk' : k <= 100000000) (hm : m <= 500000000) (w : World) (hb : b < w.heap.size) (hth : w.there b o (m * 1)) :
 Calls Tryz.prog 68 #[.slice (some ⟨b, o, none⟩) m cap, .int .i64 k] w fun e w' => e = .returned (.int .i64 (k + (m : Int))) /\ Only b w w' /\ In w' b o (Qbg m k) /\ w'.there b o (m * 1) := by
 have HT : Hid (w.there b o (m * 1)) := hth
 clear hth
 go_enter Tryz.func68, Tryz.ntmps68
 go_wp2
 go_loopw [1, 5] (fun kk i w' => ∃ (n : Nat) (z : Int), i = .int .i64 (n : Int) /\ kk = .int .i64 z /\ n <= m /\ 1 <= z /\ z <= 900000000 /\ Only b w w' /\ Hid (z = k + (n : Int)) /\ Hid (In w' b o (Qbg n k)) /\ Hid (w'.there b o (m * 1))) (fun _ i _ => m - (intOf i).toNat)
 case atStart => exact ⟨0, k, rfl, rfl, by omega, hk, by omega, Only.refl _ _, by simp [Hid], fun j v hv => by simp [Qbg, flat] at hv, HT.out⟩
 case round =>
  obtain ⟨n, z, rfl, rfl, hn, hz1, hz2, ho, hz, hin, hth⟩ := hrel
  by_cases hlt : n < m
  . obtain ⟨⟨v0, d0⟩, f0⟩ := there_one hth.out hlt
    have q1 : b < wr.heap.size := Nat.lt_of_lt_of_le hb ho.size
    go_wp2
    have hlen : (flat (Qbg n k)).length = n := by rw [Qap, Qb9]; show n * 1 = n; omega
    have P0 := push (v := .int .u8 (z % 256)) (q := o + n) ⟨hin.out, hth.out, q1⟩ (by simp [hlen]; omega) (by simp [hlen])
    have e : flat (Qbg n k) ++ [Value.int .u8 (z % 256)] = flat (Qbg (n + 1) k) := by rw [Qj5, Qa1, Qbp, hz.out, ← u8_toNat]; rfl
    rw [e] at P0
    have hz' := hz.out
    refine ⟨⟨n + 1, z + 1, by go_num, rfl, by omega, by omega, by omega, ?_, by show z + 1 = _; omega, P0.1, P0.2.1⟩, by simp [intOf]; omega⟩
    exact ho.set _ _
  . obtain rfl : n = m := by omega
    go_wp2
    go_ret
    have e := hz.out
    subst e
    exact ⟨rfl, ho, hin.out, hth.out⟩
theorem markB_none (A : Option Addr) (cap : Nat) (k : Int) (w : World) :
 Calls Tryz.prog 68 #[.slice A 0 cap, .int .i64 k] w fun e w' => e = .returned (.int .i64 k) /\ w' = w := by
 go_enter Tryz.func68, Tryz.ntmps68
 go_wp2
 go_loopw [1, 5] (fun kk i w' => kk = .int .i64 k /\ i = .int .i64 0 /\ w' = w) (fun _ _ _ => 0)
 case atStart => exact ⟨rfl, rfl, rfl⟩
 case round =>
  obtain ⟨rfl, rfl, rfl⟩ := hrel
  go_wp2
  go_ret
  exact ⟨rfl, rfl⟩
theorem heldB_any (A : Option Addr) (cap m : Nat) (k : Int) (hk : 1 <= k) (hk' : k <= 100000000) (hm : m <= 500000000) (w : World)
 (hA : m = 0 ∨ ∃ b o, A = some ⟨b, o, none⟩ /\ b < w.heap.size /\ In w b o (Qbg m k)) :
 Calls Tryz.prog 76 #[.slice A m cap, .int .i64 k] w fun e w' => e = .returned (.int .i64 (k + (m : Int))) /\ Below w.heap.size w w' := by
 have HA : Hid (m = 0 ∨ ∃ b o, A = some ⟨b, o, none⟩ /\ b < w.heap.size /\ In w b o (Qbg m k)) := hA
 clear hA
 go_enter Tryz.func76, Tryz.ntmps76
 go_wp2
 go_loopw [1, 5] (fun kk i w' => ∃ (n : Nat) (z : Int), i = .int .i64 (n : Int) /\ kk = .int .i64 z /\ n <= m /\ 1 <= z /\ z <= 900000000 /\ Hid (z = k + (n : Int)) /\ Below w.heap.size w w') (fun _ i _ => m - (intOf i).toNat)
 case atStart => exact ⟨0, k, rfl, rfl, by omega, hk, by omega, by simp [Hid], Below.refl _ _⟩
 case round =>
  obtain ⟨n, z, rfl, rfl, hn, hz1, hz2, hz, hbl⟩ := hrel
  by_cases hlt : n < m
  . obtain ⟨b, o, rfl, hbs, hin⟩ : ∃ b o, A = some ⟨b, o, none⟩ /\ b < w.heap.size /\ In w b o (Qbg m k) := by
     rcases HA.out with h | h
     . omega
     . exact h
    have c0 : wr.cell? ⟨b, o + n, none⟩ = some (.int .u8 (z % 256)) := by
     have h := (hin.below hbs hbl).getB n (by rw [Qb9]; exact hlt)
     rw [marksB_get, u8_toNat] at h
     rw [hz.out]
     exact h
    have hi0 : (0 : Int) <= (n : Int) := by omega
    have hi1 : (n : Int) < (m : Int) := by omega
    go_wp2
    try go_region
    all_goals
     try go_wp2
     have hz' := hz.out
     exact ⟨⟨n + 1, z + 1, by go_num, rfl, by omega, by omega, by omega, by show z + 1 = _; omega, by repeat (first | exact hbl | refine Below.drew ?_)⟩, by simp [intOf]; omega⟩
  . obtain rfl : n = m := by omega
    go_wp2
    go_ret
    have e := hz.out
    subst e
    exact ⟨rfl, hbl⟩
theorem flat_map1 (l : List UInt8) : flat l = l.map fun b => Value.int .u8 (b.toNat : Int) := by
 induction l with
 | nil => rfl
 | cons x l ih => rw [Qcx, ih]; rfl
theorem Qkx (w : World) (t : TypeId) (s : ByteArray) : Below w.heap.size w (Go.Lib.bytesWorld w t s) :=
 ⟨rfl, rfl, rfl, by rw [Go.Lib.bytesWorld_size]; omega, fun i hi => Go.Lib.bytesWorld_at_old w t s i hi⟩
theorem bytes_at (w : World) (t : TypeId) (s : ByteArray) : At (Go.Lib.bytesWorld w t s) (some ⟨w.heap.size, 0, none⟩) s.data.toList := by
 refine .inr ⟨_, _, rfl, by rw [Go.Lib.bytesWorld_size]; omega, ?_⟩
 intro j v hv
 rw [flat_map1] at hv
 have hj : j < s.size := by have := (List.getElem?_eq_some_iff.1 hv).1; rwa [List.length_map, Array.length_toList] at this
 rw [Nat.zero_add, Go.Lib.bytesWorld_cell w t s j hj]
 rw [← hv, List.getElem?_map, List.getD_eq_getElem?_getD]
 have : j < s.data.toList.length := by rw [Array.length_toList]; exact hj
 simp [List.getElem?_eq_getElem this]
end Go.Proofs.YtglegpkcikacoaaGreatDoor.Gen
namespace Go.Proofs.YtglegpkcikacoaaGreatDoor.CmdOk
open ChangeShapes WideShapes ChangeAt RowKit Joins Base
def inB (x lo hi : Int) : Bool := decide (lo <= x /\ x <= hi)
theorem in_any (x lo hi : Int) (w : World) :
 Calls Tryz.prog 11 #[.int .i64 x, .int .i64 lo, .int .i64 hi] w fun e w' => e = .returned (.bool (inB x lo hi)) /\ w' = w := by
 by_cases h1 : lo <= x<;>by_cases h2 : x <= hi <;>
 . go_enter Tryz.func11, Tryz.ntmps11
   go_wp2
   go_ret
   exact ⟨by simp [inB, h1, h2], rfl⟩
theorem within_any (x lo hi : Int) (w : World) :
 Calls Tryz.prog 44 #[.int .i64 x, .int .i64 lo, .int .i64 hi] w fun e w' => e = .returned (.bool (inB x lo hi)) /\ w' = w := by
 by_cases h1 : lo <= x<;>by_cases h2 : x <= hi <;>
 . go_enter Tryz.func44, Tryz.ntmps44
   go_wp2
   go_ret
   exact ⟨by simp [inB, h1, h2], rfl⟩
def Qbh (x : Nat) : Bool := decide ((97 <= x /\ x <= 122) ∨ (48 <= x /\ x <= 57) ∨ x = 32)
theorem Qcs (x : Nat) :
 ((97 : Int) <= x /\ (x : Int) <= 122 /\ Qbh x = true) ∨ ((97 : Int) <= x /\ ¬ (x : Int) <= 122 /\ (48 : Int) <= x /\ ¬ (x : Int) <= 57 /\ ((x : Int) == 32) = false /\ Qbh x = false) ∨
 (¬ (97 : Int) <= x /\ (48 : Int) <= x /\ (x : Int) <= 57 /\ Qbh x = true) ∨ (¬ (97 : Int) <= x /\ (48 : Int) <= x /\ ¬ (x : Int) <= 57 /\ ((x : Int) == 32) = false /\ Qbh x = false) ∨
 (¬ (97 : Int) <= x /\ ¬ (48 : Int) <= x /\ ((x : Int) == 32) = true /\ Qbh x = true) ∨ (¬ (97 : Int) <= x /\ ¬ (48 : Int) <= x /\ ((x : Int) == 32) = false /\ Qbh x = false) := by
 simp only [beq_eq_false_iff_ne, beq_iff_eq, ne_eq, Qbh, decide_eq_true_eq, decide_eq_false_iff_not]
 omega
theorem Qda (x : Nat) (w : World) :
 Calls Tryz.prog 178 #[.int .u8 (x : Int)] w fun e w' => e = .returned (.bool (Qbh x)) /\ w' = w := by
 rcases Qcs x with ⟨h1, h2, hp⟩ | ⟨h1, h2, h3, h4, h5, hp⟩ | ⟨h1, h2, h3, hp⟩ | ⟨h1, h2, h3, h4, hp⟩ | ⟨h1, h2, h3, hp⟩ | ⟨h1, h2, h3, hp⟩ <;>
 . rw [hp]
   go_enter Tryz.func178, Tryz.ntmps178
   go_wp2
   go_ret
   exact ⟨rfl, rfl⟩
def Qad (s : ByteArray) (i : Nat) : Bool := (s.data.toList.drop i).all (fun x => Qbh x.toNat)
def textB (s : ByteArray) : Bool := Qad s 0 && decide (s.size <= 30)
theorem Qcj {s : ByteArray} {i : Nat} (h : s.size <= i) : Qad s i = true := by
 have : s.data.toList.drop i = [] := List.drop_eq_nil_of_le (by simpa using h)
 simp [Qad, this]
theorem Qb7 {s : ByteArray} {i : Nat} (h : i < s.size) : Qad s i = (Qbh (s[i]'h).toNat && Qad s (i + 1)) := by
 have h' : i < s.data.toList.length := by simpa using h
 unfold Qad
 rw [List.drop_eq_getElem_cons h', List.all_cons]
 rfl
theorem implText_any (s : ByteArray) (hs : s.size <= 9223372036854775807) (w : World) :
 Calls Tryz.prog 150 #[.string s] w fun e w' => e = .returned (.bool (textB s)) /\ Below w.heap.size w w' := by
 by_cases hl : (s.size : Int) > 30
 . have e1 : textB s = false := by simp [textB]; omega
   rw [e1]
   go_enter Tryz.func150, Tryz.ntmps150
   go_wp2
   go_ret
   exact ⟨rfl, Below.refl _ _⟩
 . have e1 : textB s = Qad s 0 := by simp [textB]; omega
   rw [e1]
   go_enter Tryz.func150, Tryz.ntmps150
   go_wp2
   go_loopw [3] (fun i w' => ∃ n : Nat, i = .int .i64 (n : Int) /\ n <= s.size /\ Qad s n = Qad s 0 /\ Below w.heap.size w w') (fun i _ => s.size - (intOf i).toNat)
   case atStart => exact ⟨0, rfl, by omega, rfl, Below.refl _ _⟩
   case round =>
    obtain ⟨n, rfl, hn, hE, hb⟩ := hrel
    by_cases hlt : n < s.size
    . have hst := Qb7 hlt
      cases hp : Qbh s[n].toNat
      . have hE' : Qad s 0 = false := by rw [← hE, hst, hp]; rfl
        clear hE hst
        go_wp2_with (go_at_call 178; refine (Qda _ _).mono ?_; rintro e w' ⟨rfl, rfl⟩)
        go_ret
        exact ⟨by first | rfl | (rw [hE']; rfl), hb⟩
      . have hE' : Qad s (n + 1) = Qad s 0 := by rw [← hE, hst, hp]; rfl
        clear hE hst
        go_wp2_with (go_at_call 178; refine (Qda _ _).mono ?_; rintro e w' ⟨rfl, rfl⟩)
        exact ⟨⟨n + 1, by go_num, by omega, hE', hb⟩, by simp [intOf]; omega⟩
    . have hE' : Qad s 0 = true := by rw [← hE, Qcj (by omega)]
      go_wp2
      go_ret
      exact ⟨by first | rfl | (rw [hE']; rfl), hb⟩
theorem specText_any (s : ByteArray) (hs : s.size <= 9223372036854775807) (w : World) :
 Calls Tryz.prog 127 #[.string s] w fun e w' => e = .returned (.bool (textB s)) /\ Below w.heap.size w w' := by
 go_enter Tryz.func127, Tryz.ntmps127
 go_wp2
 go_loopw [3] (fun i w' => ∃ n : Nat, i = .int .i64 (n : Int) /\ n <= s.size /\ Qad s n = Qad s 0 /\ Below w.heap.size w w') (fun i _ => s.size - (intOf i).toNat)
 case atStart => exact ⟨0, rfl, by omega, rfl, Below.refl _ _⟩
 case round =>
  obtain ⟨n, rfl, hn, hE, hb⟩ := hrel
  by_cases hlt : n < s.size
  . have hst := Qb7 hlt
    rcases Qcs s[n].toNat with ⟨h1, h2, hp⟩ | ⟨h1, h2, h3, h4, h5, hp⟩ | ⟨h1, h2, h3, hp⟩ | ⟨h1, h2, h3, h4, hp⟩ | ⟨h1, h2, h3, hp⟩ | ⟨h1, h2, h3, hp⟩
    . have hE' : Qad s (n + 1) = Qad s 0 := by rw [← hE, hst, hp]; rfl
      clear hE hst hp
      go_wp2
      exact ⟨⟨n + 1, by go_num, by omega, hE', hb⟩, by simp [intOf]; omega⟩
    . have hE' : textB s = false := by
       have h0 : Qad s 0 = false := by rw [← hE, hst, hp]; rfl
       simp [textB, h0]
      clear hE hst hp
      go_wp2
      go_ret
      exact ⟨by first | rfl | (rw [hE']; rfl), hb⟩
    . have hE' : Qad s (n + 1) = Qad s 0 := by rw [← hE, hst, hp]; rfl
      clear hE hst hp
      go_wp2
      exact ⟨⟨n + 1, by go_num, by omega, hE', hb⟩, by simp [intOf]; omega⟩
    . have hE' : textB s = false := by
       have h0 : Qad s 0 = false := by rw [← hE, hst, hp]; rfl
       simp [textB, h0]
      clear hE hst hp
      go_wp2
      go_ret
      exact ⟨by first | rfl | (rw [hE']; rfl), hb⟩
    . have hE' : Qad s (n + 1) = Qad s 0 := by rw [← hE, hst, hp]; rfl
      clear hE hst hp
      go_wp2
      exact ⟨⟨n + 1, by go_num, by omega, hE', hb⟩, by simp [intOf]; omega⟩
    . have hE' : textB s = false := by
       have h0 : Qad s 0 = false := by rw [← hE, hst, hp]; rfl
       simp [textB, h0]
      clear hE hst hp
      go_wp2
      go_ret
      exact ⟨by first | rfl | (rw [hE']; rfl), hb⟩
  . have hE' : Qad s 0 = true := by rw [← hE, Qcj (by omega)]
    have hE2 : textB s = decide (s.size <= 30) := by simp [textB, hE']
    by_cases hl : (s.size : Int) <= 30
    . have : s.size <= 30 := by omega
      go_wp2
      go_ret
      exact ⟨by first | (rw [hE2]; simp [this]; done) | simp, hb⟩
    . have : ¬ s.size <= 30 := by omega
      go_wp2
      go_ret
      exact ⟨by first | (rw [hE2]; simp [this]; done) | simp, hb⟩
theorem Qba (w : World) :
 Calls Tryz.prog 202 #[] w fun e w' => e = .returned (.agg #[.string ⟨#[110, 111, 110, 101]⟩, .string ⟨#[112, 117, 116]⟩, .string ⟨#[103, 101, 116]⟩, .string ⟨#[101, 112, 111, 99, 104]⟩, .string ⟨#[106, 111, 105, 110]⟩, .string ⟨#[108, 101, 97, 118, 101]⟩, .string ⟨#[109, 97, 114, 107]⟩, .string ⟨#[114, 101, 97, 100]⟩, .string ⟨#[116, 105, 99, 107]⟩, .string ⟨#[116, 114, 105, 109]⟩, .string ⟨#[112, 97, 99, 107]⟩]) /\ Below w.heap.size w w' := by
 go_enter Tryz.func202, Tryz.ntmps202
 go_wp2
 exact bodyPost_ret (v := .agg #[.string ⟨#[110, 111, 110, 101]⟩, .string ⟨#[112, 117, 116]⟩, .string ⟨#[103, 101, 116]⟩, .string ⟨#[101, 112, 111, 99, 104]⟩, .string ⟨#[106, 111, 105, 110]⟩, .string ⟨#[108, 101, 97, 118, 101]⟩, .string ⟨#[109, 97, 114, 107]⟩, .string ⟨#[114, 101, 97, 100]⟩, .string ⟨#[116, 105, 99, 107]⟩, .string ⟨#[116, 114, 105, 109]⟩, .string ⟨#[112, 97, 99, 107]⟩]) (by simp [results, Tryz.results202, go_sem]) rfl
  ⟨rfl, by repeat (first | exact Below.refl _ _ | refine Below.drew ?_ | refine Below.alloc ?_ (by simp<;>omega) _)⟩
theorem Qa9 (op : Int) (w : World) :
 Calls Tryz.prog 223 #[.agg #[.string ⟨#[110, 111, 110, 101]⟩, .string ⟨#[112, 117, 116]⟩, .string ⟨#[103, 101, 116]⟩, .string ⟨#[101, 112, 111, 99, 104]⟩, .string ⟨#[106, 111, 105, 110]⟩, .string ⟨#[108, 101, 97, 118, 101]⟩, .string ⟨#[109, 97, 114, 107]⟩, .string ⟨#[114, 101, 97, 100]⟩, .string ⟨#[116, 105, 99, 107]⟩, .string ⟨#[116, 114, 105, 109]⟩, .string ⟨#[112, 97, 99, 107]⟩], .int .i64 op] w fun e w' => e = .returned (.bool (inB op 0 10)) /\ w' = w.alloc (.cells #[.string ⟨#[110, 111, 110, 101]⟩, .string ⟨#[112, 117, 116]⟩, .string ⟨#[103, 101, 116]⟩, .string ⟨#[101, 112, 111, 99, 104]⟩, .string ⟨#[106, 111, 105, 110]⟩, .string ⟨#[108, 101, 97, 118, 101]⟩, .string ⟨#[109, 97, 114, 107]⟩, .string ⟨#[114, 101, 97, 100]⟩, .string ⟨#[116, 105, 99, 107]⟩, .string ⟨#[116, 114, 105, 109]⟩, .string ⟨#[112, 97, 99, 107]⟩] 279) := by
 go_enter Tryz.func223, Tryz.ntmps223
 go_wp2_with (go_at_call 44; refine (within_any _ _ _ _).mono ?_; rintro e w' ⟨rfl, rfl⟩)
 go_ret
 exact ⟨rfl, rfl⟩
theorem Qjr (op : Int) (h : inB op 0 10 = false) (w : World) :
 Calls Tryz.prog 203 #[.agg #[.string ⟨#[110, 111, 110, 101]⟩, .string ⟨#[112, 117, 116]⟩, .string ⟨#[103, 101, 116]⟩, .string ⟨#[101, 112, 111, 99, 104]⟩, .string ⟨#[106, 111, 105, 110]⟩, .string ⟨#[108, 101, 97, 118, 101]⟩, .string ⟨#[109, 97, 114, 107]⟩, .string ⟨#[114, 101, 97, 100]⟩, .string ⟨#[116, 105, 99, 107]⟩, .string ⟨#[116, 114, 105, 109]⟩, .string ⟨#[112, 97, 99, 107]⟩], .int .i64 op] w fun e w' => e = .returned (.agg #[.string ⟨#[110, 111, 110, 101]⟩, .string ⟨#[112, 117, 116]⟩, .string ⟨#[103, 101, 116]⟩, .string ⟨#[101, 112, 111, 99, 104]⟩, .string ⟨#[106, 111, 105, 110]⟩, .string ⟨#[108, 101, 97, 118, 101]⟩, .string ⟨#[109, 97, 114, 107]⟩, .string ⟨#[114, 101, 97, 100]⟩, .string ⟨#[116, 105, 99, 107]⟩, .string ⟨#[116, 114, 105, 109]⟩, .string ⟨#[112, 97, 99, 107]⟩]) /\ Below w.heap.size w w' := by
 go_enter Tryz.func203, Tryz.ntmps203
 go_wp2_with (go_at_call 223; refine (Qa9 _ _).mono ?_; rintro e w1 ⟨rfl, rfl⟩)
 exact bodyPost_ret (v := .agg #[.string ⟨#[110, 111, 110, 101]⟩, .string ⟨#[112, 117, 116]⟩, .string ⟨#[103, 101, 116]⟩, .string ⟨#[101, 112, 111, 99, 104]⟩, .string ⟨#[106, 111, 105, 110]⟩, .string ⟨#[108, 101, 97, 118, 101]⟩, .string ⟨#[109, 97, 114, 107]⟩, .string ⟨#[114, 101, 97, 100]⟩, .string ⟨#[116, 105, 99, 107]⟩, .string ⟨#[116, 114, 105, 109]⟩, .string ⟨#[112, 97, 99, 107]⟩]) (by simp [results, Tryz.results203, go_sem]) rfl
  ⟨rfl, by repeat (first | exact Below.refl _ _ | (refine via (by assumption) (by first | omega | (simp; done) | (simp; omega)) ?_) | refine Below.drew ?_ | refine Below.setCell ?_ (by first | omega | (simp; done) | (simp; omega)) _ | refine Below.alloc ?_ (by first | omega | (simp; done) | (simp; omega)) _)⟩
theorem without_0 (w : World) :
 Calls Tryz.prog 203 #[.agg #[.string ⟨#[110, 111, 110, 101]⟩, .string ⟨#[112, 117, 116]⟩, .string ⟨#[103, 101, 116]⟩, .string ⟨#[101, 112, 111, 99, 104]⟩, .string ⟨#[106, 111, 105, 110]⟩, .string ⟨#[108, 101, 97, 118, 101]⟩, .string ⟨#[109, 97, 114, 107]⟩, .string ⟨#[114, 101, 97, 100]⟩, .string ⟨#[116, 105, 99, 107]⟩, .string ⟨#[116, 114, 105, 109]⟩, .string ⟨#[112, 97, 99, 107]⟩], .int .i64 0] w fun e w' => e = .returned (.agg #[.string ⟨#[110, 111, 110, 101]⟩, .string ⟨#[112, 117, 116]⟩, .string ⟨#[103, 101, 116]⟩, .string ⟨#[101, 112, 111, 99, 104]⟩, .string ⟨#[106, 111, 105, 110]⟩, .string ⟨#[108, 101, 97, 118, 101]⟩, .string ⟨#[109, 97, 114, 107]⟩, .string ⟨#[114, 101, 97, 100]⟩, .string ⟨#[116, 105, 99, 107]⟩, .string ⟨#[116, 114, 105, 109]⟩, .string ⟨#[112, 97, 99, 107]⟩]) /\ Below w.heap.size w w' := by
 have h : inB 0 0 10 = true := by decide
 go_enter Tryz.func203, Tryz.ntmps203
 go_wp2_with (go_at_call 223; refine (Qa9 _ _).mono ?_; rintro e w1 ⟨rfl, rfl⟩)
 exact bodyPost_ret (v := .agg #[.string ⟨#[110, 111, 110, 101]⟩, .string ⟨#[112, 117, 116]⟩, .string ⟨#[103, 101, 116]⟩, .string ⟨#[101, 112, 111, 99, 104]⟩, .string ⟨#[106, 111, 105, 110]⟩, .string ⟨#[108, 101, 97, 118, 101]⟩, .string ⟨#[109, 97, 114, 107]⟩, .string ⟨#[114, 101, 97, 100]⟩, .string ⟨#[116, 105, 99, 107]⟩, .string ⟨#[116, 114, 105, 109]⟩, .string ⟨#[112, 97, 99, 107]⟩]) (by simp [results, Tryz.results203, go_sem]) rfl
  ⟨rfl, by repeat (first | exact Below.refl _ _ | (refine via (by assumption) (by first | omega | (simp; done) | (simp; omega)) ?_) | refine Below.drew ?_ | refine Below.setCell ?_ (by first | omega | (simp; done) | (simp; omega)) _ | refine Below.alloc ?_ (by first | omega | (simp; done) | (simp; omega)) _)⟩
theorem without_1 (w : World) :
 Calls Tryz.prog 203 #[.agg #[.string ⟨#[110, 111, 110, 101]⟩, .string ⟨#[112, 117, 116]⟩, .string ⟨#[103, 101, 116]⟩, .string ⟨#[101, 112, 111, 99, 104]⟩, .string ⟨#[106, 111, 105, 110]⟩, .string ⟨#[108, 101, 97, 118, 101]⟩, .string ⟨#[109, 97, 114, 107]⟩, .string ⟨#[114, 101, 97, 100]⟩, .string ⟨#[116, 105, 99, 107]⟩, .string ⟨#[116, 114, 105, 109]⟩, .string ⟨#[112, 97, 99, 107]⟩], .int .i64 1] w fun e w' => e = .returned (.agg #[.string ⟨#[110, 111, 110, 101]⟩, .string ⟨#[110, 111, 110, 101]⟩, .string ⟨#[103, 101, 116]⟩, .string ⟨#[101, 112, 111, 99, 104]⟩, .string ⟨#[106, 111, 105, 110]⟩, .string ⟨#[108, 101, 97, 118, 101]⟩, .string ⟨#[109, 97, 114, 107]⟩, .string ⟨#[114, 101, 97, 100]⟩, .string ⟨#[116, 105, 99, 107]⟩, .string ⟨#[116, 114, 105, 109]⟩, .string ⟨#[112, 97, 99, 107]⟩]) /\ Below w.heap.size w w' := by
 have h : inB 1 0 10 = true := by decide
 go_enter Tryz.func203, Tryz.ntmps203
 go_wp2_with (go_at_call 223; refine (Qa9 _ _).mono ?_; rintro e w1 ⟨rfl, rfl⟩)
 exact bodyPost_ret (v := .agg #[.string ⟨#[110, 111, 110, 101]⟩, .string ⟨#[110, 111, 110, 101]⟩, .string ⟨#[103, 101, 116]⟩, .string ⟨#[101, 112, 111, 99, 104]⟩, .string ⟨#[106, 111, 105, 110]⟩, .string ⟨#[108, 101, 97, 118, 101]⟩, .string ⟨#[109, 97, 114, 107]⟩, .string ⟨#[114, 101, 97, 100]⟩, .string ⟨#[116, 105, 99, 107]⟩, .string ⟨#[116, 114, 105, 109]⟩, .string ⟨#[112, 97, 99, 107]⟩]) (by simp [results, Tryz.results203, go_sem]) rfl
  ⟨rfl, by repeat (first | exact Below.refl _ _ | (refine via (by assumption) (by first | omega | (simp; done) | (simp; omega)) ?_) | refine Below.drew ?_ | refine Below.setCell ?_ (by first | omega | (simp; done) | (simp; omega)) _ | refine Below.alloc ?_ (by first | omega | (simp; done) | (simp; omega)) _)⟩
theorem without_2 (w : World) :
 Calls Tryz.prog 203 #[.agg #[.string ⟨#[110, 111, 110, 101]⟩, .string ⟨#[112, 117, 116]⟩, .string ⟨#[103, 101, 116]⟩, .string ⟨#[101, 112, 111, 99, 104]⟩, .string ⟨#[106, 111, 105, 110]⟩, .string ⟨#[108, 101, 97, 118, 101]⟩, .string ⟨#[109, 97, 114, 107]⟩, .string ⟨#[114, 101, 97, 100]⟩, .string ⟨#[116, 105, 99, 107]⟩, .string ⟨#[116, 114, 105, 109]⟩, .string ⟨#[112, 97, 99, 107]⟩], .int .i64 2] w fun e w' => e = .returned (.agg #[.string ⟨#[110, 111, 110, 101]⟩, .string ⟨#[112, 117, 116]⟩, .string ⟨#[110, 111, 110, 101]⟩, .string ⟨#[101, 112, 111, 99, 104]⟩, .string ⟨#[106, 111, 105, 110]⟩, .string ⟨#[108, 101, 97, 118, 101]⟩, .string ⟨#[109, 97, 114, 107]⟩, .string ⟨#[114, 101, 97, 100]⟩, .string ⟨#[116, 105, 99, 107]⟩, .string ⟨#[116, 114, 105, 109]⟩, .string ⟨#[112, 97, 99, 107]⟩]) /\ Below w.heap.size w w' := by
 have h : inB 2 0 10 = true := by decide
 go_enter Tryz.func203, Tryz.ntmps203
 go_wp2_with (go_at_call 223; refine (Qa9 _ _).mono ?_; rintro e w1 ⟨rfl, rfl⟩)
 exact bodyPost_ret (v := .agg #[.string ⟨#[110, 111, 110, 101]⟩, .string ⟨#[112, 117, 116]⟩, .string ⟨#[110, 111, 110, 101]⟩, .string ⟨#[101, 112, 111, 99, 104]⟩, .string ⟨#[106, 111, 105, 110]⟩, .string ⟨#[108, 101, 97, 118, 101]⟩, .string ⟨#[109, 97, 114, 107]⟩, .string ⟨#[114, 101, 97, 100]⟩, .string ⟨#[116, 105, 99, 107]⟩, .string ⟨#[116, 114, 105, 109]⟩, .string ⟨#[112, 97, 99, 107]⟩]) (by simp [results, Tryz.results203, go_sem]) rfl
  ⟨rfl, by repeat (first | exact Below.refl _ _ | (refine via (by assumption) (by first | omega | (simp; done) | (simp; omega)) ?_) | refine Below.drew ?_ | refine Below.setCell ?_ (by first | omega | (simp; done) | (simp; omega)) _ | refine Below.alloc ?_ (by first | omega | (simp; done) | (simp; omega)) _)⟩
theorem without_3 (w : World) :
 Calls Tryz.prog 203 #[.agg #[.string ⟨#[110, 111, 110, 101]⟩, .string ⟨#[112, 117, 116]⟩, .string ⟨#[103, 101, 116]⟩, .string ⟨#[101, 112, 111, 99, 104]⟩, .string ⟨#[106, 111, 105, 110]⟩, .string ⟨#[108, 101, 97, 118, 101]⟩, .string ⟨#[109, 97, 114, 107]⟩, .string ⟨#[114, 101, 97, 100]⟩, .string ⟨#[116, 105, 99, 107]⟩, .string ⟨#[116, 114, 105, 109]⟩, .string ⟨#[112, 97, 99, 107]⟩], .int .i64 3] w fun e w' => e = .returned (.agg #[.string ⟨#[110, 111, 110, 101]⟩, .string ⟨#[112, 117, 116]⟩, .string ⟨#[103, 101, 116]⟩, .string ⟨#[110, 111, 110, 101]⟩, .string ⟨#[106, 111, 105, 110]⟩, .string ⟨#[108, 101, 97, 118, 101]⟩, .string ⟨#[109, 97, 114, 107]⟩, .string ⟨#[114, 101, 97, 100]⟩, .string ⟨#[116, 105, 99, 107]⟩, .string ⟨#[116, 114, 105, 109]⟩, .string ⟨#[112, 97, 99, 107]⟩]) /\ Below w.heap.size w w' := by
 have h : inB 3 0 10 = true := by decide
 go_enter Tryz.func203, Tryz.ntmps203
 go_wp2_with (go_at_call 223; refine (Qa9 _ _).mono ?_; rintro e w1 ⟨rfl, rfl⟩)
 exact bodyPost_ret (v := .agg #[.string ⟨#[110, 111, 110, 101]⟩, .string ⟨#[112, 117, 116]⟩, .string ⟨#[103, 101, 116]⟩, .string ⟨#[110, 111, 110, 101]⟩, .string ⟨#[106, 111, 105, 110]⟩, .string ⟨#[108, 101, 97, 118, 101]⟩, .string ⟨#[109, 97, 114, 107]⟩, .string ⟨#[114, 101, 97, 100]⟩, .string ⟨#[116, 105, 99, 107]⟩, .string ⟨#[116, 114, 105, 109]⟩, .string ⟨#[112, 97, 99, 107]⟩]) (by simp [results, Tryz.results203, go_sem]) rfl
  ⟨rfl, by repeat (first | exact Below.refl _ _ | (refine via (by assumption) (by first | omega | (simp; done) | (simp; omega)) ?_) | refine Below.drew ?_ | refine Below.setCell ?_ (by first | omega | (simp; done) | (simp; omega)) _ | refine Below.alloc ?_ (by first | omega | (simp; done) | (simp; omega)) _)⟩
theorem without_4 (w : World) :
 Calls Tryz.prog 203 #[.agg #[.string ⟨#[110, 111, 110, 101]⟩, .string ⟨#[112, 117, 116]⟩, .string ⟨#[103, 101, 116]⟩, .string ⟨#[101, 112, 111, 99, 104]⟩, .string ⟨#[106, 111, 105, 110]⟩, .string ⟨#[108, 101, 97, 118, 101]⟩, .string ⟨#[109, 97, 114, 107]⟩, .string ⟨#[114, 101, 97, 100]⟩, .string ⟨#[116, 105, 99, 107]⟩, .string ⟨#[116, 114, 105, 109]⟩, .string ⟨#[112, 97, 99, 107]⟩], .int .i64 4] w fun e w' => e = .returned (.agg #[.string ⟨#[110, 111, 110, 101]⟩, .string ⟨#[112, 117, 116]⟩, .string ⟨#[103, 101, 116]⟩, .string ⟨#[101, 112, 111, 99, 104]⟩, .string ⟨#[110, 111, 110, 101]⟩, .string ⟨#[108, 101, 97, 118, 101]⟩, .string ⟨#[109, 97, 114, 107]⟩, .string ⟨#[114, 101, 97, 100]⟩, .string ⟨#[116, 105, 99, 107]⟩, .string ⟨#[116, 114, 105, 109]⟩, .string ⟨#[112, 97, 99, 107]⟩]) /\ Below w.heap.size w w' := by
 have h : inB 4 0 10 = true := by decide
 go_enter Tryz.func203, Tryz.ntmps203
 go_wp2_with (go_at_call 223; refine (Qa9 _ _).mono ?_; rintro e w1 ⟨rfl, rfl⟩)
 exact bodyPost_ret (v := .agg #[.string ⟨#[110, 111, 110, 101]⟩, .string ⟨#[112, 117, 116]⟩, .string ⟨#[103, 101, 116]⟩, .string ⟨#[101, 112, 111, 99, 104]⟩, .string ⟨#[110, 111, 110, 101]⟩, .string ⟨#[108, 101, 97, 118, 101]⟩, .string ⟨#[109, 97, 114, 107]⟩, .string ⟨#[114, 101, 97, 100]⟩, .string ⟨#[116, 105, 99, 107]⟩, .string ⟨#[116, 114, 105, 109]⟩, .string ⟨#[112, 97, 99, 107]⟩]) (by simp [results, Tryz.results203, go_sem]) rfl
  ⟨rfl, by repeat (first | exact Below.refl _ _ | (refine via (by assumption) (by first | omega | (simp; done) | (simp; omega)) ?_) | refine Below.drew ?_ | refine Below.setCell ?_ (by first | omega | (simp; done) | (simp; omega)) _ | refine Below.alloc ?_ (by first | omega | (simp; done) | (simp; omega)) _)⟩
theorem without_5 (w : World) :
 Calls Tryz.prog 203 #[.agg #[.string ⟨#[110, 111, 110, 101]⟩, .string ⟨#[112, 117, 116]⟩, .string ⟨#[103, 101, 116]⟩, .string ⟨#[101, 112, 111, 99, 104]⟩, .string ⟨#[106, 111, 105, 110]⟩, .string ⟨#[108, 101, 97, 118, 101]⟩, .string ⟨#[109, 97, 114, 107]⟩, .string ⟨#[114, 101, 97, 100]⟩, .string ⟨#[116, 105, 99, 107]⟩, .string ⟨#[116, 114, 105, 109]⟩, .string ⟨#[112, 97, 99, 107]⟩], .int .i64 5] w fun e w' => e = .returned (.agg #[.string ⟨#[110, 111, 110, 101]⟩, .string ⟨#[112, 117, 116]⟩, .string ⟨#[103, 101, 116]⟩, .string ⟨#[101, 112, 111, 99, 104]⟩, .string ⟨#[106, 111, 105, 110]⟩, .string ⟨#[110, 111, 110, 101]⟩, .string ⟨#[109, 97, 114, 107]⟩, .string ⟨#[114, 101, 97, 100]⟩, .string ⟨#[116, 105, 99, 107]⟩, .string ⟨#[116, 114, 105, 109]⟩, .string ⟨#[112, 97, 99, 107]⟩]) /\ Below w.heap.size w w' := by
 have h : inB 5 0 10 = true := by decide
 go_enter Tryz.func203, Tryz.ntmps203
 go_wp2_with (go_at_call 223; refine (Qa9 _ _).mono ?_; rintro e w1 ⟨rfl, rfl⟩)
 exact bodyPost_ret (v := .agg #[.string ⟨#[110, 111, 110, 101]⟩, .string ⟨#[112, 117, 116]⟩, .string ⟨#[103, 101, 116]⟩, .string ⟨#[101, 112, 111, 99, 104]⟩, .string ⟨#[106, 111, 105, 110]⟩, .string ⟨#[110, 111, 110, 101]⟩, .string ⟨#[109, 97, 114, 107]⟩, .string ⟨#[114, 101, 97, 100]⟩, .string ⟨#[116, 105, 99, 107]⟩, .string ⟨#[116, 114, 105, 109]⟩, .string ⟨#[112, 97, 99, 107]⟩]) (by simp [results, Tryz.results203, go_sem]) rfl
  ⟨rfl, by repeat (first | exact Below.refl _ _ | (refine via (by assumption) (by first | omega | (simp; done) | (simp; omega)) ?_) | refine Below.drew ?_ | refine Below.setCell ?_ (by first | omega | (simp; done) | (simp; omega)) _ | refine Below.alloc ?_ (by first | omega | (simp; done) | (simp; omega)) _)⟩
theorem without_6 (w : World) :
 Calls Tryz.prog 203 #[.agg #[.string ⟨#[110, 111, 110, 101]⟩, .string ⟨#[112, 117, 116]⟩, .string ⟨#[103, 101, 116]⟩, .string ⟨#[101, 112, 111, 99, 104]⟩, .string ⟨#[106, 111, 105, 110]⟩, .string ⟨#[108, 101, 97, 118, 101]⟩, .string ⟨#[109, 97, 114, 107]⟩, .string ⟨#[114, 101, 97, 100]⟩, .string ⟨#[116, 105, 99, 107]⟩, .string ⟨#[116, 114, 105, 109]⟩, .string ⟨#[112, 97, 99, 107]⟩], .int .i64 6] w fun e w' => e = .returned (.agg #[.string ⟨#[110, 111, 110, 101]⟩, .string ⟨#[112, 117, 116]⟩, .string ⟨#[103, 101, 116]⟩, .string ⟨#[101, 112, 111, 99, 104]⟩, .string ⟨#[106, 111, 105, 110]⟩, .string ⟨#[108, 101, 97, 118, 101]⟩, .string ⟨#[110, 111, 110, 101]⟩, .string ⟨#[114, 101, 97, 100]⟩, .string ⟨#[116, 105, 99, 107]⟩, .string ⟨#[116, 114, 105, 109]⟩, .string ⟨#[112, 97, 99, 107]⟩]) /\ Below w.heap.size w w' := by
 have h : inB 6 0 10 = true := by decide
 go_enter Tryz.func203, Tryz.ntmps203
 go_wp2_with (go_at_call 223; refine (Qa9 _ _).mono ?_; rintro e w1 ⟨rfl, rfl⟩)
 exact bodyPost_ret (v := .agg #[.string ⟨#[110, 111, 110, 101]⟩, .string ⟨#[112, 117, 116]⟩, .string ⟨#[103, 101, 116]⟩, .string ⟨#[101, 112, 111, 99, 104]⟩, .string ⟨#[106, 111, 105, 110]⟩, .string ⟨#[108, 101, 97, 118, 101]⟩, .string ⟨#[110, 111, 110, 101]⟩, .string ⟨#[114, 101, 97, 100]⟩, .string ⟨#[116, 105, 99, 107]⟩, .string ⟨#[116, 114, 105, 109]⟩, .string ⟨#[112, 97, 99, 107]⟩]) (by simp [results, Tryz.results203, go_sem]) rfl
  ⟨rfl, by repeat (first | exact Below.refl _ _ | (refine via (by assumption) (by first | omega | (simp; done) | (simp; omega)) ?_) | refine Below.drew ?_ | refine Below.setCell ?_ (by first | omega | (simp; done) | (simp; omega)) _ | refine Below.alloc ?_ (by first | omega | (simp; done) | (simp; omega)) _)⟩
theorem without_7 (w : World) :
 Calls Tryz.prog 203 #[.agg #[.string ⟨#[110, 111, 110, 101]⟩, .string ⟨#[112, 117, 116]⟩, .string ⟨#[103, 101, 116]⟩, .string ⟨#[101, 112, 111, 99, 104]⟩, .string ⟨#[106, 111, 105, 110]⟩, .string ⟨#[108, 101, 97, 118, 101]⟩, .string ⟨#[109, 97, 114, 107]⟩, .string ⟨#[114, 101, 97, 100]⟩, .string ⟨#[116, 105, 99, 107]⟩, .string ⟨#[116, 114, 105, 109]⟩, .string ⟨#[112, 97, 99, 107]⟩], .int .i64 7] w fun e w' => e = .returned (.agg #[.string ⟨#[110, 111, 110, 101]⟩, .string ⟨#[112, 117, 116]⟩, .string ⟨#[103, 101, 116]⟩, .string ⟨#[101, 112, 111, 99, 104]⟩, .string ⟨#[106, 111, 105, 110]⟩, .string ⟨#[108, 101, 97, 118, 101]⟩, .string ⟨#[109, 97, 114, 107]⟩, .string ⟨#[110, 111, 110, 101]⟩, .string ⟨#[116, 105, 99, 107]⟩, .string ⟨#[116, 114, 105, 109]⟩, .string ⟨#[112, 97, 99, 107]⟩]) /\ Below w.heap.size w w' := by
 have h : inB 7 0 10 = true := by decide
 go_enter Tryz.func203, Tryz.ntmps203
 go_wp2_with (go_at_call 223; refine (Qa9 _ _).mono ?_; rintro e w1 ⟨rfl, rfl⟩)
 exact bodyPost_ret (v := .agg #[.string ⟨#[110, 111, 110, 101]⟩, .string ⟨#[112, 117, 116]⟩, .string ⟨#[103, 101, 116]⟩, .string ⟨#[101, 112, 111, 99, 104]⟩, .string ⟨#[106, 111, 105, 110]⟩, .string ⟨#[108, 101, 97, 118, 101]⟩, .string ⟨#[109, 97, 114, 107]⟩, .string ⟨#[110, 111, 110, 101]⟩, .string ⟨#[116, 105, 99, 107]⟩, .string ⟨#[116, 114, 105, 109]⟩, .string ⟨#[112, 97, 99, 107]⟩]) (by simp [results, Tryz.results203, go_sem]) rfl
  ⟨rfl, by repeat (first | exact Below.refl _ _ | (refine via (by assumption) (by first | omega | (simp; done) | (simp; omega)) ?_) | refine Below.drew ?_ | refine Below.setCell ?_ (by first | omega | (simp; done) | (simp; omega)) _ | refine Below.alloc ?_ (by first | omega | (simp; done) | (simp; omega)) _)⟩
theorem without_8 (w : World) :
 Calls Tryz.prog 203 #[.agg #[.string ⟨#[110, 111, 110, 101]⟩, .string ⟨#[112, 117, 116]⟩, .string ⟨#[103, 101, 116]⟩, .string ⟨#[101, 112, 111, 99, 104]⟩, .string ⟨#[106, 111, 105, 110]⟩, .string ⟨#[108, 101, 97, 118, 101]⟩, .string ⟨#[109, 97, 114, 107]⟩, .string ⟨#[114, 101, 97, 100]⟩, .string ⟨#[116, 105, 99, 107]⟩, .string ⟨#[116, 114, 105, 109]⟩, .string ⟨#[112, 97, 99, 107]⟩], .int .i64 8] w fun e w' => e = .returned (.agg #[.string ⟨#[110, 111, 110, 101]⟩, .string ⟨#[112, 117, 116]⟩, .string ⟨#[103, 101, 116]⟩, .string ⟨#[101, 112, 111, 99, 104]⟩, .string ⟨#[106, 111, 105, 110]⟩, .string ⟨#[108, 101, 97, 118, 101]⟩, .string ⟨#[109, 97, 114, 107]⟩, .string ⟨#[114, 101, 97, 100]⟩, .string ⟨#[110, 111, 110, 101]⟩, .string ⟨#[116, 114, 105, 109]⟩, .string ⟨#[112, 97, 99, 107]⟩]) /\ Below w.heap.size w w' := by
 have h : inB 8 0 10 = true := by decide
 go_enter Tryz.func203, Tryz.ntmps203
 go_wp2_with (go_at_call 223; refine (Qa9 _ _).mono ?_; rintro e w1 ⟨rfl, rfl⟩)
 exact bodyPost_ret (v := .agg #[.string ⟨#[110, 111, 110, 101]⟩, .string ⟨#[112, 117, 116]⟩, .string ⟨#[103, 101, 116]⟩, .string ⟨#[101, 112, 111, 99, 104]⟩, .string ⟨#[106, 111, 105, 110]⟩, .string ⟨#[108, 101, 97, 118, 101]⟩, .string ⟨#[109, 97, 114, 107]⟩, .string ⟨#[114, 101, 97, 100]⟩, .string ⟨#[110, 111, 110, 101]⟩, .string ⟨#[116, 114, 105, 109]⟩, .string ⟨#[112, 97, 99, 107]⟩]) (by simp [results, Tryz.results203, go_sem]) rfl
  ⟨rfl, by repeat (first | exact Below.refl _ _ | (refine via (by assumption) (by first | omega | (simp; done) | (simp; omega)) ?_) | refine Below.drew ?_ | refine Below.setCell ?_ (by first | omega | (simp; done) | (simp; omega)) _ | refine Below.alloc ?_ (by first | omega | (simp; done) | (simp; omega)) _)⟩
theorem without_9 (w : World) :
 Calls Tryz.prog 203 #[.agg #[.string ⟨#[110, 111, 110, 101]⟩, .string ⟨#[112, 117, 116]⟩, .string ⟨#[103, 101, 116]⟩, .string ⟨#[101, 112, 111, 99, 104]⟩, .string ⟨#[106, 111, 105, 110]⟩, .string ⟨#[108, 101, 97, 118, 101]⟩, .string ⟨#[109, 97, 114, 107]⟩, .string ⟨#[114, 101, 97, 100]⟩, .string ⟨#[116, 105, 99, 107]⟩, .string ⟨#[116, 114, 105, 109]⟩, .string ⟨#[112, 97, 99, 107]⟩], .int .i64 9] w fun e w' => e = .returned (.agg #[.string ⟨#[110, 111, 110, 101]⟩, .string ⟨#[112, 117, 116]⟩, .string ⟨#[103, 101, 116]⟩, .string ⟨#[101, 112, 111, 99, 104]⟩, .string ⟨#[106, 111, 105, 110]⟩, .string ⟨#[108, 101, 97, 118, 101]⟩, .string ⟨#[109, 97, 114, 107]⟩, .string ⟨#[114, 101, 97, 100]⟩, .string ⟨#[116, 105, 99, 107]⟩, .string ⟨#[110, 111, 110, 101]⟩, .string ⟨#[112, 97, 99, 107]⟩]) /\ Below w.heap.size w w' := by
 have h : inB 9 0 10 = true := by decide
 go_enter Tryz.func203, Tryz.ntmps203
 go_wp2_with (go_at_call 223; refine (Qa9 _ _).mono ?_; rintro e w1 ⟨rfl, rfl⟩)
 exact bodyPost_ret (v := .agg #[.string ⟨#[110, 111, 110, 101]⟩, .string ⟨#[112, 117, 116]⟩, .string ⟨#[103, 101, 116]⟩, .string ⟨#[101, 112, 111, 99, 104]⟩, .string ⟨#[106, 111, 105, 110]⟩, .string ⟨#[108, 101, 97, 118, 101]⟩, .string ⟨#[109, 97, 114, 107]⟩, .string ⟨#[114, 101, 97, 100]⟩, .string ⟨#[116, 105, 99, 107]⟩, .string ⟨#[110, 111, 110, 101]⟩, .string ⟨#[112, 97, 99, 107]⟩]) (by simp [results, Tryz.results203, go_sem]) rfl
  ⟨rfl, by repeat (first | exact Below.refl _ _ | (refine via (by assumption) (by first | omega | (simp; done) | (simp; omega)) ?_) | refine Below.drew ?_ | refine Below.setCell ?_ (by first | omega | (simp; done) | (simp; omega)) _ | refine Below.alloc ?_ (by first | omega | (simp; done) | (simp; omega)) _)⟩
theorem without_10 (w : World) :
 Calls Tryz.prog 203 #[.agg #[.string ⟨#[110, 111, 110, 101]⟩, .string ⟨#[112, 117, 116]⟩, .string ⟨#[103, 101, 116]⟩, .string ⟨#[101, 112, 111, 99, 104]⟩, .string ⟨#[106, 111, 105, 110]⟩, .string ⟨#[108, 101, 97, 118, 101]⟩, .string ⟨#[109, 97, 114, 107]⟩, .string ⟨#[114, 101, 97, 100]⟩, .string ⟨#[116, 105, 99, 107]⟩, .string ⟨#[116, 114, 105, 109]⟩, .string ⟨#[112, 97, 99, 107]⟩], .int .i64 10] w fun e w' => e = .returned (.agg #[.string ⟨#[110, 111, 110, 101]⟩, .string ⟨#[112, 117, 116]⟩, .string ⟨#[103, 101, 116]⟩, .string ⟨#[101, 112, 111, 99, 104]⟩, .string ⟨#[106, 111, 105, 110]⟩, .string ⟨#[108, 101, 97, 118, 101]⟩, .string ⟨#[109, 97, 114, 107]⟩, .string ⟨#[114, 101, 97, 100]⟩, .string ⟨#[116, 105, 99, 107]⟩, .string ⟨#[116, 114, 105, 109]⟩, .string ⟨#[110, 111, 110, 101]⟩]) /\ Below w.heap.size w w' := by
 have h : inB 10 0 10 = true := by decide
 go_enter Tryz.func203, Tryz.ntmps203
 go_wp2_with (go_at_call 223; refine (Qa9 _ _).mono ?_; rintro e w1 ⟨rfl, rfl⟩)
 exact bodyPost_ret (v := .agg #[.string ⟨#[110, 111, 110, 101]⟩, .string ⟨#[112, 117, 116]⟩, .string ⟨#[103, 101, 116]⟩, .string ⟨#[101, 112, 111, 99, 104]⟩, .string ⟨#[106, 111, 105, 110]⟩, .string ⟨#[108, 101, 97, 118, 101]⟩, .string ⟨#[109, 97, 114, 107]⟩, .string ⟨#[114, 101, 97, 100]⟩, .string ⟨#[116, 105, 99, 107]⟩, .string ⟨#[116, 114, 105, 109]⟩, .string ⟨#[110, 111, 110, 101]⟩]) (by simp [results, Tryz.results203, go_sem]) rfl
  ⟨rfl, by repeat (first | exact Below.refl _ _ | (refine via (by assumption) (by first | omega | (simp; done) | (simp; omega)) ?_) | refine Below.drew ?_ | refine Below.setCell ?_ (by first | omega | (simp; done) | (simp; omega)) _ | refine Below.alloc ?_ (by first | omega | (simp; done) | (simp; omega)) _)⟩
theorem op_ways (op : Int) : inB op 0 10 = false ∨ op = 0 ∨ op = 1 ∨ op = 2 ∨ op = 3 ∨ op = 4 ∨ op = 5 ∨ op = 6 ∨ op = 7 ∨ op = 8 ∨ op = 9 ∨ op = 10 := by
 simp only [inB, decide_eq_false_iff_not]
 omega
theorem Qgn (w : World) : (Op.equalIn 10000 279 (.agg #[.string ⟨#[110, 111, 110, 101]⟩, .string ⟨#[112, 117, 116]⟩, .string ⟨#[103, 101, 116]⟩, .string ⟨#[101, 112, 111, 99, 104]⟩, .string ⟨#[106, 111, 105, 110]⟩, .string ⟨#[108, 101, 97, 118, 101]⟩, .string ⟨#[109, 97, 114, 107]⟩, .string ⟨#[114, 101, 97, 100]⟩, .string ⟨#[116, 105, 99, 107]⟩, .string ⟨#[116, 114, 105, 109]⟩, .string ⟨#[112, 97, 99, 107]⟩]) (.agg #[.string ⟨#[110, 111, 110, 101]⟩, .string ⟨#[112, 117, 116]⟩, .string ⟨#[103, 101, 116]⟩, .string ⟨#[101, 112, 111, 99, 104]⟩, .string ⟨#[106, 111, 105, 110]⟩, .string ⟨#[108, 101, 97, 118, 101]⟩, .string ⟨#[109, 97, 114, 107]⟩, .string ⟨#[114, 101, 97, 100]⟩, .string ⟨#[116, 105, 99, 107]⟩, .string ⟨#[116, 114, 105, 109]⟩, .string ⟨#[112, 97, 99, 107]⟩])).run Tryz.prog w = .ok true w := by kernel_rfl
theorem Qie (w : World) : (Op.equalIn 10000 279 (.agg #[.string ⟨#[110, 111, 110, 101]⟩, .string ⟨#[110, 111, 110, 101]⟩, .string ⟨#[103, 101, 116]⟩, .string ⟨#[101, 112, 111, 99, 104]⟩, .string ⟨#[106, 111, 105, 110]⟩, .string ⟨#[108, 101, 97, 118, 101]⟩, .string ⟨#[109, 97, 114, 107]⟩, .string ⟨#[114, 101, 97, 100]⟩, .string ⟨#[116, 105, 99, 107]⟩, .string ⟨#[116, 114, 105, 109]⟩, .string ⟨#[112, 97, 99, 107]⟩]) (.agg #[.string ⟨#[110, 111, 110, 101]⟩, .string ⟨#[112, 117, 116]⟩, .string ⟨#[103, 101, 116]⟩, .string ⟨#[101, 112, 111, 99, 104]⟩, .string ⟨#[106, 111, 105, 110]⟩, .string ⟨#[108, 101, 97, 118, 101]⟩, .string ⟨#[109, 97, 114, 107]⟩, .string ⟨#[114, 101, 97, 100]⟩, .string ⟨#[116, 105, 99, 107]⟩, .string ⟨#[116, 114, 105, 109]⟩, .string ⟨#[112, 97, 99, 107]⟩])).run Tryz.prog w = .ok false w := by kernel_rfl
theorem Qid (w : World) : (Op.equalIn 10000 279 (.agg #[.string ⟨#[110, 111, 110, 101]⟩, .string ⟨#[112, 117, 116]⟩, .string ⟨#[110, 111, 110, 101]⟩, .string ⟨#[101, 112, 111, 99, 104]⟩, .string ⟨#[106, 111, 105, 110]⟩, .string ⟨#[108, 101, 97, 118, 101]⟩, .string ⟨#[109, 97, 114, 107]⟩, .string ⟨#[114, 101, 97, 100]⟩, .string ⟨#[116, 105, 99, 107]⟩, .string ⟨#[116, 114, 105, 109]⟩, .string ⟨#[112, 97, 99, 107]⟩]) (.agg #[.string ⟨#[110, 111, 110, 101]⟩, .string ⟨#[112, 117, 116]⟩, .string ⟨#[103, 101, 116]⟩, .string ⟨#[101, 112, 111, 99, 104]⟩, .string ⟨#[106, 111, 105, 110]⟩, .string ⟨#[108, 101, 97, 118, 101]⟩, .string ⟨#[109, 97, 114, 107]⟩, .string ⟨#[114, 101, 97, 100]⟩, .string ⟨#[116, 105, 99, 107]⟩, .string ⟨#[116, 114, 105, 109]⟩, .string ⟨#[112, 97, 99, 107]⟩])).run Tryz.prog w = .ok false w := by kernel_rfl
theorem Qic (w : World) : (Op.equalIn 10000 279 (.agg #[.string ⟨#[110, 111, 110, 101]⟩, .string ⟨#[112, 117, 116]⟩, .string ⟨#[103, 101, 116]⟩, .string ⟨#[110, 111, 110, 101]⟩, .string ⟨#[106, 111, 105, 110]⟩, .string ⟨#[108, 101, 97, 118, 101]⟩, .string ⟨#[109, 97, 114, 107]⟩, .string ⟨#[114, 101, 97, 100]⟩, .string ⟨#[116, 105, 99, 107]⟩, .string ⟨#[116, 114, 105, 109]⟩, .string ⟨#[112, 97, 99, 107]⟩]) (.agg #[.string ⟨#[110, 111, 110, 101]⟩, .string ⟨#[112, 117, 116]⟩, .string ⟨#[103, 101, 116]⟩, .string ⟨#[101, 112, 111, 99, 104]⟩, .string ⟨#[106, 111, 105, 110]⟩, .string ⟨#[108, 101, 97, 118, 101]⟩, .string ⟨#[109, 97, 114, 107]⟩, .string ⟨#[114, 101, 97, 100]⟩, .string ⟨#[116, 105, 99, 107]⟩, .string ⟨#[116, 114, 105, 109]⟩, .string ⟨#[112, 97, 99, 107]⟩])).run Tryz.prog w = .ok false w := by kernel_rfl
theorem Qib (w : World) : (Op.equalIn 10000 279 (.agg #[.string ⟨#[110, 111, 110, 101]⟩, .string ⟨#[112, 117, 116]⟩, .string ⟨#[103, 101, 116]⟩, .string ⟨#[101, 112, 111, 99, 104]⟩, .string ⟨#[110, 111, 110, 101]⟩, .string ⟨#[108, 101, 97, 118, 101]⟩, .string ⟨#[109, 97, 114, 107]⟩, .string ⟨#[114, 101, 97, 100]⟩, .string ⟨#[116, 105, 99, 107]⟩, .string ⟨#[116, 114, 105, 109]⟩, .string ⟨#[112, 97, 99, 107]⟩]) (.agg #[.string ⟨#[110, 111, 110, 101]⟩, .string ⟨#[112, 117, 116]⟩, .string ⟨#[103, 101, 116]⟩, .string ⟨#[101, 112, 111, 99, 104]⟩, .string ⟨#[106, 111, 105, 110]⟩, .string ⟨#[108, 101, 97, 118, 101]⟩, .string ⟨#[109, 97, 114, 107]⟩, .string ⟨#[114, 101, 97, 100]⟩, .string ⟨#[116, 105, 99, 107]⟩, .string ⟨#[116, 114, 105, 109]⟩, .string ⟨#[112, 97, 99, 107]⟩])).run Tryz.prog w = .ok false w := by kernel_rfl
theorem Qia (w : World) : (Op.equalIn 10000 279 (.agg #[.string ⟨#[110, 111, 110, 101]⟩, .string ⟨#[112, 117, 116]⟩, .string ⟨#[103, 101, 116]⟩, .string ⟨#[101, 112, 111, 99, 104]⟩, .string ⟨#[106, 111, 105, 110]⟩, .string ⟨#[110, 111, 110, 101]⟩, .string ⟨#[109, 97, 114, 107]⟩, .string ⟨#[114, 101, 97, 100]⟩, .string ⟨#[116, 105, 99, 107]⟩, .string ⟨#[116, 114, 105, 109]⟩, .string ⟨#[112, 97, 99, 107]⟩]) (.agg #[.string ⟨#[110, 111, 110, 101]⟩, .string ⟨#[112, 117, 116]⟩, .string ⟨#[103, 101, 116]⟩, .string ⟨#[101, 112, 111, 99, 104]⟩, .string ⟨#[106, 111, 105, 110]⟩, .string ⟨#[108, 101, 97, 118, 101]⟩, .string ⟨#[109, 97, 114, 107]⟩, .string ⟨#[114, 101, 97, 100]⟩, .string ⟨#[116, 105, 99, 107]⟩, .string ⟨#[116, 114, 105, 109]⟩, .string ⟨#[112, 97, 99, 107]⟩])).run Tryz.prog w = .ok false w := by kernel_rfl
theorem Qh9 (w : World) : (Op.equalIn 10000 279 (.agg #[.string ⟨#[110, 111, 110, 101]⟩, .string ⟨#[112, 117, 116]⟩, .string ⟨#[103, 101, 116]⟩, .string ⟨#[101, 112, 111, 99, 104]⟩, .string ⟨#[106, 111, 105, 110]⟩, .string ⟨#[108, 101, 97, 118, 101]⟩, .string ⟨#[110, 111, 110, 101]⟩, .string ⟨#[114, 101, 97, 100]⟩, .string ⟨#[116, 105, 99, 107]⟩, .string ⟨#[116, 114, 105, 109]⟩, .string ⟨#[112, 97, 99, 107]⟩]) (.agg #[.string ⟨#[110, 111, 110, 101]⟩, .string ⟨#[112, 117, 116]⟩, .string ⟨#[103, 101, 116]⟩, .string ⟨#[101, 112, 111, 99, 104]⟩, .string ⟨#[106, 111, 105, 110]⟩, .string ⟨#[108, 101, 97, 118, 101]⟩, .string ⟨#[109, 97, 114, 107]⟩, .string ⟨#[114, 101, 97, 100]⟩, .string ⟨#[116, 105, 99, 107]⟩, .string ⟨#[116, 114, 105, 109]⟩, .string ⟨#[112, 97, 99, 107]⟩])).run Tryz.prog w = .ok false w := by kernel_rfl
theorem Qh8 (w : World) : (Op.equalIn 10000 279 (.agg #[.string ⟨#[110, 111, 110, 101]⟩, .string ⟨#[112, 117, 116]⟩, .string ⟨#[103, 101, 116]⟩, .string ⟨#[101, 112, 111, 99, 104]⟩, .string ⟨#[106, 111, 105, 110]⟩, .string ⟨#[108, 101, 97, 118, 101]⟩, .string ⟨#[109, 97, 114, 107]⟩, .string ⟨#[110, 111, 110, 101]⟩, .string ⟨#[116, 105, 99, 107]⟩, .string ⟨#[116, 114, 105, 109]⟩, .string ⟨#[112, 97, 99, 107]⟩]) (.agg #[.string ⟨#[110, 111, 110, 101]⟩, .string ⟨#[112, 117, 116]⟩, .string ⟨#[103, 101, 116]⟩, .string ⟨#[101, 112, 111, 99, 104]⟩, .string ⟨#[106, 111, 105, 110]⟩, .string ⟨#[108, 101, 97, 118, 101]⟩, .string ⟨#[109, 97, 114, 107]⟩, .string ⟨#[114, 101, 97, 100]⟩, .string ⟨#[116, 105, 99, 107]⟩, .string ⟨#[116, 114, 105, 109]⟩, .string ⟨#[112, 97, 99, 107]⟩])).run Tryz.prog w = .ok false w := by kernel_rfl
theorem Qh7 (w : World) : (Op.equalIn 10000 279 (.agg #[.string ⟨#[110, 111, 110, 101]⟩, .string ⟨#[112, 117, 116]⟩, .string ⟨#[103, 101, 116]⟩, .string ⟨#[101, 112, 111, 99, 104]⟩, .string ⟨#[106, 111, 105, 110]⟩, .string ⟨#[108, 101, 97, 118, 101]⟩, .string ⟨#[109, 97, 114, 107]⟩, .string ⟨#[114, 101, 97, 100]⟩, .string ⟨#[110, 111, 110, 101]⟩, .string ⟨#[116, 114, 105, 109]⟩, .string ⟨#[112, 97, 99, 107]⟩]) (.agg #[.string ⟨#[110, 111, 110, 101]⟩, .string ⟨#[112, 117, 116]⟩, .string ⟨#[103, 101, 116]⟩, .string ⟨#[101, 112, 111, 99, 104]⟩, .string ⟨#[106, 111, 105, 110]⟩, .string ⟨#[108, 101, 97, 118, 101]⟩, .string ⟨#[109, 97, 114, 107]⟩, .string ⟨#[114, 101, 97, 100]⟩, .string ⟨#[116, 105, 99, 107]⟩, .string ⟨#[116, 114, 105, 109]⟩, .string ⟨#[112, 97, 99, 107]⟩])).run Tryz.prog w = .ok false w := by kernel_rfl
theorem Qh6 (w : World) : (Op.equalIn 10000 279 (.agg #[.string ⟨#[110, 111, 110, 101]⟩, .string ⟨#[112, 117, 116]⟩, .string ⟨#[103, 101, 116]⟩, .string ⟨#[101, 112, 111, 99, 104]⟩, .string ⟨#[106, 111, 105, 110]⟩, .string ⟨#[108, 101, 97, 118, 101]⟩, .string ⟨#[109, 97, 114, 107]⟩, .string ⟨#[114, 101, 97, 100]⟩, .string ⟨#[116, 105, 99, 107]⟩, .string ⟨#[110, 111, 110, 101]⟩, .string ⟨#[112, 97, 99, 107]⟩]) (.agg #[.string ⟨#[110, 111, 110, 101]⟩, .string ⟨#[112, 117, 116]⟩, .string ⟨#[103, 101, 116]⟩, .string ⟨#[101, 112, 111, 99, 104]⟩, .string ⟨#[106, 111, 105, 110]⟩, .string ⟨#[108, 101, 97, 118, 101]⟩, .string ⟨#[109, 97, 114, 107]⟩, .string ⟨#[114, 101, 97, 100]⟩, .string ⟨#[116, 105, 99, 107]⟩, .string ⟨#[116, 114, 105, 109]⟩, .string ⟨#[112, 97, 99, 107]⟩])).run Tryz.prog w = .ok false w := by kernel_rfl
theorem Qgz (w : World) : (Op.equalIn 10000 279 (.agg #[.string ⟨#[110, 111, 110, 101]⟩, .string ⟨#[112, 117, 116]⟩, .string ⟨#[103, 101, 116]⟩, .string ⟨#[101, 112, 111, 99, 104]⟩, .string ⟨#[106, 111, 105, 110]⟩, .string ⟨#[108, 101, 97, 118, 101]⟩, .string ⟨#[109, 97, 114, 107]⟩, .string ⟨#[114, 101, 97, 100]⟩, .string ⟨#[116, 105, 99, 107]⟩, .string ⟨#[116, 114, 105, 109]⟩, .string ⟨#[110, 111, 110, 101]⟩]) (.agg #[.string ⟨#[110, 111, 110, 101]⟩, .string ⟨#[112, 117, 116]⟩, .string ⟨#[103, 101, 116]⟩, .string ⟨#[101, 112, 111, 99, 104]⟩, .string ⟨#[106, 111, 105, 110]⟩, .string ⟨#[108, 101, 97, 118, 101]⟩, .string ⟨#[109, 97, 114, 107]⟩, .string ⟨#[114, 101, 97, 100]⟩, .string ⟨#[116, 105, 99, 107]⟩, .string ⟨#[116, 114, 105, 109]⟩, .string ⟨#[112, 97, 99, 107]⟩])).run Tryz.prog w = .ok false w := by kernel_rfl
theorem isOp_out (op : Int) (h : inB op 0 10 = false) (w : World) :
 Calls Tryz.prog 175 #[.int .i64 op] w fun e w' => e = .returned (.bool false) /\ Below w.heap.size w w' := by
 have heq := Qgn
 go_enter Tryz.func175, Tryz.ntmps175
 go_wp2_with (go_at_call 202; refine (Qba _).mono ?_; rintro e w1 ⟨rfl, g1⟩; obtain ⟨c1, f1⟩ := Qaj g1; have s1 := g1.size; try simp at s1)
 go_region_with (go_at_call 203; refine (Qjr _ h _).mono ?_; rintro e w2 ⟨rfl, g2⟩; obtain ⟨c2, f2⟩ := Qaj g2; have s2 := g2.size; try simp at s2; have q2 : w1.heap.size < w2.heap.size := by omega)
 all_goals
  go_wp2
  go_ret
  refine ⟨rfl, ?_⟩
  repeat (first | exact Below.refl _ _ | (refine via (by assumption) (by first | omega | (simp; done) | (simp; omega)) ?_) | refine Below.drew ?_ | refine Below.setCell ?_ (by first | omega | (simp; done) | (simp; omega)) _ | refine Below.alloc ?_ (by first | omega | (simp; done) | (simp; omega)) _)
theorem isOp_0 (w : World) :
 Calls Tryz.prog 175 #[.int .i64 0] w fun e w' => e = .returned (.bool false) /\ Below w.heap.size w w' := by
 have heq := Qgn
 go_enter Tryz.func175, Tryz.ntmps175
 go_wp2_with (go_at_call 202; refine (Qba _).mono ?_; rintro e w1 ⟨rfl, g1⟩; obtain ⟨c1, f1⟩ := Qaj g1; have s1 := g1.size; try simp at s1)
 go_region_with (go_at_call 203; refine (without_0 _).mono ?_; rintro e w2 ⟨rfl, g2⟩; obtain ⟨c2, f2⟩ := Qaj g2; have s2 := g2.size; try simp at s2; have q2 : w1.heap.size < w2.heap.size := by omega)
 all_goals
  go_wp2
  go_ret
  refine ⟨rfl, ?_⟩
  repeat (first | exact Below.refl _ _ | (refine via (by assumption) (by first | omega | (simp; done) | (simp; omega)) ?_) | refine Below.drew ?_ | refine Below.setCell ?_ (by first | omega | (simp; done) | (simp; omega)) _ | refine Below.alloc ?_ (by first | omega | (simp; done) | (simp; omega)) _)
theorem isOp_1 (w : World) :
 Calls Tryz.prog 175 #[.int .i64 1] w fun e w' => e = .returned (.bool true) /\ Below w.heap.size w w' := by
 have heq := Qie
 go_enter Tryz.func175, Tryz.ntmps175
 go_wp2_with (go_at_call 202; refine (Qba _).mono ?_; rintro e w1 ⟨rfl, g1⟩; obtain ⟨c1, f1⟩ := Qaj g1; have s1 := g1.size; try simp at s1)
 go_region_with (go_at_call 203; refine (without_1 _).mono ?_; rintro e w2 ⟨rfl, g2⟩; obtain ⟨c2, f2⟩ := Qaj g2; have s2 := g2.size; try simp at s2; have q2 : w1.heap.size < w2.heap.size := by omega)
 all_goals
  go_wp2
  go_ret
  refine ⟨rfl, ?_⟩
  repeat (first | exact Below.refl _ _ | (refine via (by assumption) (by first | omega | (simp; done) | (simp; omega)) ?_) | refine Below.drew ?_ | refine Below.setCell ?_ (by first | omega | (simp; done) | (simp; omega)) _ | refine Below.alloc ?_ (by first | omega | (simp; done) | (simp; omega)) _)
theorem isOp_2 (w : World) :
 Calls Tryz.prog 175 #[.int .i64 2] w fun e w' => e = .returned (.bool true) /\ Below w.heap.size w w' := by
 have heq := Qid
 go_enter Tryz.func175, Tryz.ntmps175
 go_wp2_with (go_at_call 202; refine (Qba _).mono ?_; rintro e w1 ⟨rfl, g1⟩; obtain ⟨c1, f1⟩ := Qaj g1; have s1 := g1.size; try simp at s1)
 go_region_with (go_at_call 203; refine (without_2 _).mono ?_; rintro e w2 ⟨rfl, g2⟩; obtain ⟨c2, f2⟩ := Qaj g2; have s2 := g2.size; try simp at s2; have q2 : w1.heap.size < w2.heap.size := by omega)
 all_goals
  go_wp2
  go_ret
  refine ⟨rfl, ?_⟩
  repeat (first | exact Below.refl _ _ | (refine via (by assumption) (by first | omega | (simp; done) | (simp; omega)) ?_) | refine Below.drew ?_ | refine Below.setCell ?_ (by first | omega | (simp; done) | (simp; omega)) _ | refine Below.alloc ?_ (by first | omega | (simp; done) | (simp; omega)) _)
theorem isOp_3 (w : World) :
 Calls Tryz.prog 175 #[.int .i64 3] w fun e w' => e = .returned (.bool true) /\ Below w.heap.size w w' := by
 have heq := Qic
 go_enter Tryz.func175, Tryz.ntmps175
 go_wp2_with (go_at_call 202; refine (Qba _).mono ?_; rintro e w1 ⟨rfl, g1⟩; obtain ⟨c1, f1⟩ := Qaj g1; have s1 := g1.size; try simp at s1)
 go_region_with (go_at_call 203; refine (without_3 _).mono ?_; rintro e w2 ⟨rfl, g2⟩; obtain ⟨c2, f2⟩ := Qaj g2; have s2 := g2.size; try simp at s2; have q2 : w1.heap.size < w2.heap.size := by omega)
 all_goals
  go_wp2
  go_ret
  refine ⟨rfl, ?_⟩
  repeat (first | exact Below.refl _ _ | (refine via (by assumption) (by first | omega | (simp; done) | (simp; omega)) ?_) | refine Below.drew ?_ | refine Below.setCell ?_ (by first | omega | (simp; done) | (simp; omega)) _ | refine Below.alloc ?_ (by first | omega | (simp; done) | (simp; omega)) _)
theorem isOp_4 (w : World) :
 Calls Tryz.prog 175 #[.int .i64 4] w fun e w' => e = .returned (.bool true) /\ Below w.heap.size w w' := by
 have heq := Qib
 go_enter Tryz.func175, Tryz.ntmps175
 go_wp2_with (go_at_call 202; refine (Qba _).mono ?_; rintro e w1 ⟨rfl, g1⟩; obtain ⟨c1, f1⟩ := Qaj g1; have s1 := g1.size; try simp at s1)
 go_region_with (go_at_call 203; refine (without_4 _).mono ?_; rintro e w2 ⟨rfl, g2⟩; obtain ⟨c2, f2⟩ := Qaj g2; have s2 := g2.size; try simp at s2; have q2 : w1.heap.size < w2.heap.size := by omega)
 all_goals
  go_wp2
  go_ret
  refine ⟨rfl, ?_⟩
  repeat (first | exact Below.refl _ _ | (refine via (by assumption) (by first | omega | (simp; done) | (simp; omega)) ?_) | refine Below.drew ?_ | refine Below.setCell ?_ (by first | omega | (simp; done) | (simp; omega)) _ | refine Below.alloc ?_ (by first | omega | (simp; done) | (simp; omega)) _)
theorem isOp_5 (w : World) :
 Calls Tryz.prog 175 #[.int .i64 5] w fun e w' => e = .returned (.bool true) /\ Below w.heap.size w w' := by
 have heq := Qia
 go_enter Tryz.func175, Tryz.ntmps175
 go_wp2_with (go_at_call 202; refine (Qba _).mono ?_; rintro e w1 ⟨rfl, g1⟩; obtain ⟨c1, f1⟩ := Qaj g1; have s1 := g1.size; try simp at s1)
 go_region_with (go_at_call 203; refine (without_5 _).mono ?_; rintro e w2 ⟨rfl, g2⟩; obtain ⟨c2, f2⟩ := Qaj g2; have s2 := g2.size; try simp at s2; have q2 : w1.heap.size < w2.heap.size := by omega)
 all_goals
  go_wp2
  go_ret
  refine ⟨rfl, ?_⟩
  repeat (first | exact Below.refl _ _ | (refine via (by assumption) (by first | omega | (simp; done) | (simp; omega)) ?_) | refine Below.drew ?_ | refine Below.setCell ?_ (by first | omega | (simp; done) | (simp; omega)) _ | refine Below.alloc ?_ (by first | omega | (simp; done) | (simp; omega)) _)
theorem isOp_6 (w : World) :
 Calls Tryz.prog 175 #[.int .i64 6] w fun e w' => e = .returned (.bool true) /\ Below w.heap.size w w' := by
 have heq := Qh9
 go_enter Tryz.func175, Tryz.ntmps175
 go_wp2_with (go_at_call 202; refine (Qba _).mono ?_; rintro e w1 ⟨rfl, g1⟩; obtain ⟨c1, f1⟩ := Qaj g1; have s1 := g1.size; try simp at s1)
 go_region_with (go_at_call 203; refine (without_6 _).mono ?_; rintro e w2 ⟨rfl, g2⟩; obtain ⟨c2, f2⟩ := Qaj g2; have s2 := g2.size; try simp at s2; have q2 : w1.heap.size < w2.heap.size := by omega)
 all_goals
  go_wp2
  go_ret
  refine ⟨rfl, ?_⟩
  repeat (first | exact Below.refl _ _ | (refine via (by assumption) (by first | omega | (simp; done) | (simp; omega)) ?_) | refine Below.drew ?_ | refine Below.setCell ?_ (by first | omega | (simp; done) | (simp; omega)) _ | refine Below.alloc ?_ (by first | omega | (simp; done) | (simp; omega)) _)
theorem isOp_7 (w : World) :
 Calls Tryz.prog 175 #[.int .i64 7] w fun e w' => e = .returned (.bool true) /\ Below w.heap.size w w' := by
 have heq := Qh8
 go_enter Tryz.func175, Tryz.ntmps175
 go_wp2_with (go_at_call 202; refine (Qba _).mono ?_; rintro e w1 ⟨rfl, g1⟩; obtain ⟨c1, f1⟩ := Qaj g1; have s1 := g1.size; try simp at s1)
 go_region_with (go_at_call 203; refine (without_7 _).mono ?_; rintro e w2 ⟨rfl, g2⟩; obtain ⟨c2, f2⟩ := Qaj g2; have s2 := g2.size; try simp at s2; have q2 : w1.heap.size < w2.heap.size := by omega)
 all_goals
  go_wp2
  go_ret
  refine ⟨rfl, ?_⟩
  repeat (first | exact Below.refl _ _ | (refine via (by assumption) (by first | omega | (simp; done) | (simp; omega)) ?_) | refine Below.drew ?_ | refine Below.setCell ?_ (by first | omega | (simp; done) | (simp; omega)) _ | refine Below.alloc ?_ (by first | omega | (simp; done) | (simp; omega)) _)
theorem isOp_8 (w : World) :
 Calls Tryz.prog 175 #[.int .i64 8] w fun e w' => e = .returned (.bool true) /\ Below w.heap.size w w' := by
 have heq := Qh7
 go_enter Tryz.func175, Tryz.ntmps175
 go_wp2_with (go_at_call 202; refine (Qba _).mono ?_; rintro e w1 ⟨rfl, g1⟩; obtain ⟨c1, f1⟩ := Qaj g1; have s1 := g1.size; try simp at s1)
 go_region_with (go_at_call 203; refine (without_8 _).mono ?_; rintro e w2 ⟨rfl, g2⟩; obtain ⟨c2, f2⟩ := Qaj g2; have s2 := g2.size; try simp at s2; have q2 : w1.heap.size < w2.heap.size := by omega)
 all_goals
  go_wp2
  go_ret
  refine ⟨rfl, ?_⟩
  repeat (first | exact Below.refl _ _ | (refine via (by assumption) (by first | omega | (simp; done) | (simp; omega)) ?_) | refine Below.drew ?_ | refine Below.setCell ?_ (by first | omega | (simp; done) | (simp; omega)) _ | refine Below.alloc ?_ (by first | omega | (simp; done) | (simp; omega)) _)
theorem isOp_9 (w : World) :
 Calls Tryz.prog 175 #[.int .i64 9] w fun e w' => e = .returned (.bool true) /\ Below w.heap.size w w' := by
 have heq := Qh6
 go_enter Tryz.func175, Tryz.ntmps175
 go_wp2_with (go_at_call 202; refine (Qba _).mono ?_; rintro e w1 ⟨rfl, g1⟩; obtain ⟨c1, f1⟩ := Qaj g1; have s1 := g1.size; try simp at s1)
 go_region_with (go_at_call 203; refine (without_9 _).mono ?_; rintro e w2 ⟨rfl, g2⟩; obtain ⟨c2, f2⟩ := Qaj g2; have s2 := g2.size; try simp at s2; have q2 : w1.heap.size < w2.heap.size := by omega)
 all_goals
  go_wp2
  go_ret
  refine ⟨rfl, ?_⟩
  repeat (first | exact Below.refl _ _ | (refine via (by assumption) (by first | omega | (simp; done) | (simp; omega)) ?_) | refine Below.drew ?_ | refine Below.setCell ?_ (by first | omega | (simp; done) | (simp; omega)) _ | refine Below.alloc ?_ (by first | omega | (simp; done) | (simp; omega)) _)
theorem isOp_10 (w : World) :
 Calls Tryz.prog 175 #[.int .i64 10] w fun e w' => e = .returned (.bool true) /\ Below w.heap.size w w' := by
 have heq := Qgz
 go_enter Tryz.func175, Tryz.ntmps175
 go_wp2_with (go_at_call 202; refine (Qba _).mono ?_; rintro e w1 ⟨rfl, g1⟩; obtain ⟨c1, f1⟩ := Qaj g1; have s1 := g1.size; try simp at s1)
 go_region_with (go_at_call 203; refine (without_10 _).mono ?_; rintro e w2 ⟨rfl, g2⟩; obtain ⟨c2, f2⟩ := Qaj g2; have s2 := g2.size; try simp at s2; have q2 : w1.heap.size < w2.heap.size := by omega)
 all_goals
  go_wp2
  go_ret
  refine ⟨rfl, ?_⟩
  repeat (first | exact Below.refl _ _ | (refine via (by assumption) (by first | omega | (simp; done) | (simp; omega)) ?_) | refine Below.drew ?_ | refine Below.setCell ?_ (by first | omega | (simp; done) | (simp; omega)) _ | refine Below.alloc ?_ (by first | omega | (simp; done) | (simp; omega)) _)
theorem isOp_any (op : Int) (w : World) :
 Calls Tryz.prog 175 #[.int .i64 op] w fun e w' => e = .returned (.bool (inB op 1 10)) /\ Below w.heap.size w w' := by
 rcases op_ways op with h | rfl | rfl | rfl | rfl | rfl | rfl | rfl | rfl | rfl | rfl | rfl
 . have e : inB op 1 10 = false := by simp only [inB, decide_eq_false_iff_not] at h ⊢; omega
   rw [e]; exact isOp_out op h w
 . exact isOp_0 w
 . exact isOp_1 w
 . exact isOp_2 w
 . exact isOp_3 w
 . exact isOp_4 w
 . exact isOp_5 w
 . exact isOp_6 w
 . exact isOp_7 w
 . exact isOp_8 w
 . exact isOp_9 w
 . exact isOp_10 w
theorem own : ownKnob Tryz.prog.godebug = none := by kernel_rfl
theorem laidOut : laidOutB Tryz.prog = true := by kernel_rfl
def restB (who seq op a b c : Int) (k t : ByteArray) : Bool :=
  inB who 0 3 && inB seq 1 100000 && inB op 1 10 && inB a 0 100000 && inB b 0 100000 && inB c 0 100000 && textB k && textB t
def Qe8 (seq op a b c : Int) (k t : ByteArray) : Bool :=
  seq == 0 && op == 0 && a == 0 && b == 0 && c == 0 && k.toList == [] && t.toList == []
def okB (who seq op a b c : Int) (k t : ByteArray) : Bool := if who = -1 then Qe8 seq op a b c k t else restB who seq op a b c k t
theorem eqC (who seq op a b c : Int) (k t : ByteArray) (w : World) :
 (Op.equalIn 10000 110 (.agg #[.int .i64 who, .int .i64 seq, .int .i64 op, .int .i64 a, .int .i64 b, .int .i64 c, .string k, .string t]) (.agg #[.int .i64 (-1), .int .i64 0, .int .i64 0, .int .i64 0, .int .i64 0, .int .i64 0, .string ⟨#[]⟩, .string ⟨#[]⟩])).run Tryz.prog w = .ok (who == -1 && Qe8 seq op a b c k t) w := by
 have u3 := Tryz.underlying3
 have us := Tryz.underlying9
 have hS : Tryz.prog.underlying 110 = some (.struct (Tryz.prog.fieldsOf 110)) := by kernel_rfl
 rw [show (10000 : Nat) = 9999 + 1 from rfl, run_equalIn_agg w 9999 110 _ _ hS (by kernel_rfl)]
 simp only [Program.fieldsOf, Tryz.underlying110]
 go_simp
 simp only [Qe8]
 repeat' split
 all_goals simp_all
theorem eight (p0 p1 p2 p3 p4 p5 p6 p7 : Bool) : p0 = false ∨ (p0 = true /\ p1 = false) ∨ (p0 = true /\ p1 = true /\ p2 = false) ∨ (p0 = true /\ p1 = true /\ p2 = true /\ p3 = false) ∨
 (p0 = true /\ p1 = true /\ p2 = true /\ p3 = true /\ p4 = false) ∨ (p0 = true /\ p1 = true /\ p2 = true /\ p3 = true /\ p4 = true /\ p5 = false) ∨
 (p0 = true /\ p1 = true /\ p2 = true /\ p3 = true /\ p4 = true /\ p5 = true /\ p6 = false) ∨ (p0 = true /\ p1 = true /\ p2 = true /\ p3 = true /\ p4 = true /\ p5 = true /\ p6 = true /\ p7 = false) ∨
 (p0 = true /\ p1 = true /\ p2 = true /\ p3 = true /\ p4 = true /\ p5 = true /\ p6 = true /\ p7 = true) := by
 cases p0<;>cases p1<;>cases p2<;>cases p3<;>cases p4<;>cases p5<;>cases p6<;>cases p7<;>simp
theorem Qjs (seq op a b c : Int) (k t : ByteArray) (w : World) :
 Calls Tryz.prog 124 #[.agg #[.int .i64 (-1), .int .i64 seq, .int .i64 op, .int .i64 a, .int .i64 b, .int .i64 c, .string k, .string t]] w fun e w' => e = .returned (.bool (Qe8 seq op a b c k t)) /\ Below w.heap.size w w' := by
 have heq := eqC (-1) seq op a b c k t
 go_enter Tryz.func124, Tryz.ntmps124
 go_wp2
 go_ret
 exact ⟨by simp, by repeat (first | exact Below.refl _ _ | (refine via (by assumption) (by first | omega | (simp; done) | (simp; omega)) ?_) | refine Below.drew ?_ | refine Below.setCell ?_ (by first | omega | (simp; done) | (simp; omega)) _ | refine Below.alloc ?_ (by first | omega | (simp; done) | (simp; omega)) _)⟩
theorem spec_rest (who seq op a b c : Int) (k t : ByteArray) (hk : k.size <= 9223372036854775807) (ht : t.size <= 9223372036854775807) (hw : ((who : Int) == -1) = false) (w : World) :
 Calls Tryz.prog 124 #[.agg #[.int .i64 who, .int .i64 seq, .int .i64 op, .int .i64 a, .int .i64 b, .int .i64 c, .string k, .string t]] w fun e w' => e = .returned (.bool (restB who seq op a b c k t)) /\ Below w.heap.size w w' := by
 rcases eight (inB who 0 3) (inB seq 1 100000) (inB op 1 10) (inB a 0 100000) (inB b 0 100000) (inB c 0 100000) (textB k) (textB t) with h0 | ⟨h0, h1⟩ | ⟨h0, h1, h2⟩ | ⟨h0, h1, h2, h3⟩ | ⟨h0, h1, h2, h3, h4⟩ | ⟨h0, h1, h2, h3, h4, h5⟩ | ⟨h0, h1, h2, h3, h4, h5, h6⟩ | ⟨h0, h1, h2, h3, h4, h5, h6, h7⟩ | ⟨h0, h1, h2, h3, h4, h5, h6, h7⟩
 all_goals
  go_enter Tryz.func124, Tryz.ntmps124
  go_wp2_with (first
   | (go_at_call 11; refine (in_any _ _ _ _).mono ?_; rintro e w' ⟨rfl, rfl⟩)
   | (go_at_call_of 127 (Value.string k); refine (specText_any k hk _).mono ?_; rintro e w1 ⟨rfl, g1⟩; obtain ⟨c1, f1⟩ := Qaj g1; have s1 := g1.size; try simp at s1; have q1 : w.heap.size < w1.heap.size := by omega)
   | (go_at_call_of 127 (Value.string t); refine (specText_any t ht _).mono ?_; rintro e w1 ⟨rfl, g1⟩; obtain ⟨c1, f1⟩ := Qaj g1; have s1 := g1.size; try simp at s1; have q1 : w.heap.size < w1.heap.size := by omega))
  go_ret
  refine ⟨by simp [restB, *], ?_⟩
  repeat (first | exact Below.refl _ _ | (refine via (by assumption) (by first | omega | (simp; done) | (simp; omega)) ?_) | refine Below.drew ?_ | refine Below.setCell ?_ (by first | omega | (simp; done) | (simp; omega)) _ | refine Below.alloc ?_ (by first | omega | (simp; done) | (simp; omega)) _)
theorem spec_any (who seq op a b c : Int) (k t : ByteArray) (hk : k.size <= 9223372036854775807) (ht : t.size <= 9223372036854775807) (w : World) :
 Calls Tryz.prog 124 #[.agg #[.int .i64 who, .int .i64 seq, .int .i64 op, .int .i64 a, .int .i64 b, .int .i64 c, .string k, .string t]] w fun e w' => e = .returned (.bool (okB who seq op a b c k t)) /\ Below w.heap.size w w' := by
 unfold okB
 by_cases h : who = -1
 . subst h; rw [if_pos rfl]; exact Qjs seq op a b c k t w
 . rw [if_neg h]; exact spec_rest who seq op a b c k t hk ht (by simpa using h) w
theorem Qkf (seq op a b c : Int) (k t : ByteArray) (w : World) :
 Calls Tryz.prog 142 #[.agg #[.int .i64 (-1), .int .i64 seq, .int .i64 op, .int .i64 a, .int .i64 b, .int .i64 c, .string k, .string t]] w fun e w' => e = .returned (.bool (Qe8 seq op a b c k t)) /\ Below w.heap.size w w' := by
 have heq := eqC (-1) seq op a b c k t
 go_enter Tryz.func142, Tryz.ntmps142
 go_wp2
 go_ret
 exact ⟨by simp, by repeat (first | exact Below.refl _ _ | (refine via (by assumption) (by first | omega | (simp; done) | (simp; omega)) ?_) | refine Below.drew ?_ | refine Below.setCell ?_ (by first | omega | (simp; done) | (simp; omega)) _ | refine Below.alloc ?_ (by first | omega | (simp; done) | (simp; omega)) _)⟩
theorem impl_rest (who seq op a b c : Int) (k t : ByteArray) (hk : k.size <= 9223372036854775807) (ht : t.size <= 9223372036854775807) (hw : ((who : Int) == -1) = false) (w : World) :
 Calls Tryz.prog 142 #[.agg #[.int .i64 who, .int .i64 seq, .int .i64 op, .int .i64 a, .int .i64 b, .int .i64 c, .string k, .string t]] w fun e w' => e = .returned (.bool (restB who seq op a b c k t)) /\ Below w.heap.size w w' := by
 rcases eight (inB who 0 3) (inB seq 1 100000) (inB op 1 10) (inB a 0 100000) (inB b 0 100000) (inB c 0 100000) (textB k) (textB t) with h0 | ⟨h0, h1⟩ | ⟨h0, h1, h2⟩ | ⟨h0, h1, h2, h3⟩ | ⟨h0, h1, h2, h3, h4⟩ | ⟨h0, h1, h2, h3, h4, h5⟩ | ⟨h0, h1, h2, h3, h4, h5, h6⟩ | ⟨h0, h1, h2, h3, h4, h5, h6, h7⟩ | ⟨h0, h1, h2, h3, h4, h5, h6, h7⟩
 all_goals
  go_enter Tryz.func142, Tryz.ntmps142
  go_wp2_with (first
   | (go_at_call 44; refine (within_any _ _ _ _).mono ?_; rintro e w' ⟨rfl, rfl⟩)
   | (go_at_call 175; refine (isOp_any _ _).mono ?_; rintro e w1 ⟨rfl, g1⟩; obtain ⟨c1, f1⟩ := Qaj g1; have s1 := g1.size; try simp at s1; have q1 : w.heap.size < w1.heap.size := by omega)
   | (go_at_call_of 150 (Value.string k); refine (implText_any k hk _).mono ?_; rintro e w1 ⟨rfl, g1⟩; obtain ⟨c1, f1⟩ := Qaj g1; have s1 := g1.size; try simp at s1; have q1 : w.heap.size < w1.heap.size := by omega)
   | (go_at_call_of 150 (Value.string t); refine (implText_any t ht _).mono ?_; rintro e w1 ⟨rfl, g1⟩; obtain ⟨c1, f1⟩ := Qaj g1; have s1 := g1.size; try simp at s1; have q1 : w.heap.size < w1.heap.size := by omega))
  go_ret
  refine ⟨by simp [restB, *], ?_⟩
  repeat (first | exact Below.refl _ _ | (refine via (by assumption) (by first | omega | (simp; done) | (simp; omega)) ?_) | refine Below.drew ?_ | refine Below.setCell ?_ (by first | omega | (simp; done) | (simp; omega)) _ | refine Below.alloc ?_ (by first | omega | (simp; done) | (simp; omega)) _)
theorem impl_any (who seq op a b c : Int) (k t : ByteArray) (hk : k.size <= 9223372036854775807) (ht : t.size <= 9223372036854775807) (w : World) :
 Calls Tryz.prog 142 #[.agg #[.int .i64 who, .int .i64 seq, .int .i64 op, .int .i64 a, .int .i64 b, .int .i64 c, .string k, .string t]] w fun e w' => e = .returned (.bool (okB who seq op a b c k t)) /\ Below w.heap.size w w' := by
 unfold okB
 by_cases h : who = -1
 . subst h; rw [if_pos rfl]; exact Qkf seq op a b c k t w
 . rw [if_neg h]; exact impl_rest who seq op a b c k t hk ht (by simpa using h) w
end Go.Proofs.YtglegpkcikacoaaGreatDoor.CmdOk
namespace Go.Proofs.YtglegpkcikacoaaGreatDoor.Gen
def getD : Nat -> Nat -> Nat -> List UInt8 -> Option (Nat × Nat)
  | 0, _, _, _ => none
  | _ + 1, _, _, [] => none
  | f + 1, k, acc, d :: r =>
    if d.toNat < 128 then (if (0 < k /\ d.toNat = 0) ∨ 2147483647 < acc + d.toNat % 128 * 128 ^ k then none else some (acc + d.toNat % 128 * 128 ^ k, k + 1))
    else getD f (k + 1) (acc + d.toNat % 128 * 128 ^ k) r
def getN (l : List UInt8) (i : Int) : Option (Nat × Nat) := if 0 <= i then (getD 5 0 0 (l.drop i.toNat)).map fun x => (x.1, i.toNat + x.2) else none
theorem getD_le : ∀ (f k acc : Nat) (l : List UInt8) (n c : Nat), getD f k acc l = some (n, c) -> n <= 2147483647 /\ k < c /\ c - k <= l.length /\ c <= k + f := by
 intro f
 induction f with
 | zero => intro k acc l n c h; simp [getD] at h
 | succ f ih =>
  intro k acc l n c h
  cases l with
  | nil => simp [getD] at h
  | cons d r =>
   simp only [getD] at h
   split at h
   . split at h
     . cases h
     . rename_i h1
       simp only [Option.some.injEq, Prod.mk.injEq] at h
       obtain ⟨rfl, rfl⟩ := h
       simp only [List.length_cons]
       omega
   . obtain ⟨h1, h2, h3, h4⟩ := ih _ _ _ _ _ h
     simp only [List.length_cons]
     omega
theorem Qa2 {l : List UInt8} {i : Int} {n c : Nat} (h : getN l i = some (n, c)) : n <= 2147483647 /\ 0 <= i /\ i < (c : Int) /\ c <= l.length /\ c <= i.toNat + 5 := by
 unfold getN at h
 split at h
 . rename_i hi
   cases hg : getD 5 0 0 (l.drop i.toNat) with
   | none => rw [hg] at h; cases h
   | some x =>
    obtain ⟨x1, x2⟩ := x
    rw [hg] at h
    simp only [Option.map_some, Option.some.injEq, Prod.mk.injEq] at h
    obtain ⟨rfl, rfl⟩ := h
    obtain ⟨h1, h2, h3, h4⟩ := getD_le _ _ _ _ _ _ hg
    simp only [List.length_drop] at h3
    omega
 . cases h
theorem Qja {l : List UInt8} {i : Int} (h : (l.length : Int) <= i) : getN l i = none := by
 unfold getN
 split
 . rw [List.drop_eq_nil_of_le (by omega)]; rfl
 . rfl
theorem getD_next {l : List UInt8} {i k : Nat} (h : i + k < l.length) (f acc : Nat) :
 getD (f + 1) k acc (l.drop (i + k)) = if (l[i + k]).toNat < 128 then (if (0 < k /\ (l[i + k]).toNat = 0) ∨ 2147483647 < acc + (l[i + k]).toNat % 128 * 128 ^ k then none else some (acc + (l[i + k]).toNat % 128 * 128 ^ k, k + 1))
  else getD f (k + 1) (acc + (l[i + k]).toNat % 128 * 128 ^ k) (l.drop (i + (k + 1))) := by
 rw [List.drop_eq_getElem_cons h]
 rfl
theorem getD_past {l : List UInt8} {i k : Nat} (h : ¬ i + k < l.length) (f acc : Nat) : getD f k acc (l.drop (i + k)) = none := by
 rw [List.drop_eq_nil_of_le (by omega)]
 cases f<;>rfl
end Go.Proofs.YtglegpkcikacoaaGreatDoor.Gen
namespace Go.Proofs.YtglegpkcikacoaaGreatDoor.Items
open ChangeShapes WideShapes ChangeAt RowKit Joins Deep Base
instance : Inhabited It := ⟨⟨0, ⟨#[]⟩, ⟨#[]⟩, 0, 0⟩⟩
abbrev At (w : World) (A : Option Addr) (l : List It) : Prop := l = [] ∨ ∃ b o, A = some ⟨b, o, none⟩ /\ b < w.heap.size /\ In w b o l
theorem At.below {w w' : World} {A : Option Addr} {l : List It} (h : At w A l) (hw : Below w.heap.size w w') : At w' A l :=
 h.imp id fun ⟨b, o, e, hb, hi⟩ => ⟨b, o, e, Nat.lt_of_lt_of_le hb hw.size, hi.below hb hw⟩
def I64 (x : Int) : Prop := -9223372036854775808 <= x /\ x <= 9223372036854775807
theorem Qgp {x : Int} (hx : (Lit.int .i64 x).wf = true) : I64 x := by simpa [I64, Lit.wf, IntKind.min, IntKind.max, IntKind.signed, IntKind.bits] using hx
def It.right (x : It) : Prop := I64 x.off /\ I64 x.who /\ I64 x.time /\ x.key.size <= 9223372036854775807 /\ x.text.size <= 9223372036854775807
end Go.Proofs.YtglegpkcikacoaaGreatDoor.Items
namespace Go.Proofs.YtglegpkcikacoaaGreatDoor.Gen
open ChangeShapes WideShapes ChangeAt RowKit Joins Deep Base
structure En where
  term : Int
  who : Int
  seq : Int
  op : Int
  a : Int
  b : Int
  c : Int
  key : ByteArray
  text : ByteArray
instance : Inhabited En := ⟨⟨0, 0, 0, 0, 0, 0, 0, ⟨#[]⟩, ⟨#[]⟩⟩⟩
instance : Cel En where
  k := 9
  cs x := [.int .i64 x.term, .int .i64 x.who, .int .i64 x.seq, .int .i64 x.op, .int .i64 x.a, .int .i64 x.b, .int .i64 x.c, .string x.key, .string x.text]
  len _ := rfl
  one x u hu := by simp at hu; rcases hu with rfl | rfl | rfl | rfl | rfl | rfl | rfl | rfl | rfl<;>rfl
def En.fit (x : En) : Prop := x.key.size <= 9223372036854775807 /\ x.text.size <= 9223372036854775807
theorem In.getEn {w : World} {b o : Nat} {l : List En} (h : In w b o l) (n : Nat) (hi : n < l.length) :
 w.cell? ⟨b, o + n * 9, none⟩ = some (.int .i64 l[n].term) /\ w.cell? ⟨b, o + n * 9 + 1, none⟩ = some (.int .i64 l[n].who) /\ w.cell? ⟨b, o + n * 9 + 2, none⟩ = some (.int .i64 l[n].seq) /\ w.cell? ⟨b, o + n * 9 + 3, none⟩ = some (.int .i64 l[n].op) /\ w.cell? ⟨b, o + n * 9 + 4, none⟩ = some (.int .i64 l[n].a) /\ w.cell? ⟨b, o + n * 9 + 5, none⟩ = some (.int .i64 l[n].b) /\ w.cell? ⟨b, o + n * 9 + 6, none⟩ = some (.int .i64 l[n].c) /\ w.cell? ⟨b, o + n * 9 + 7, none⟩ = some (.string l[n].key) /\ w.cell? ⟨b, o + n * 9 + 8, none⟩ = some (.string l[n].text) :=
 ⟨h.cell n hi (f := 0) rfl, h.cell n hi (f := 1) rfl, h.cell n hi (f := 2) rfl, h.cell n hi (f := 3) rfl, h.cell n hi (f := 4) rfl, h.cell n hi (f := 5) rfl, h.cell n hi (f := 6) rfl, h.cell n hi (f := 7) rfl, h.cell n hi (f := 8) rfl⟩
theorem infoEn : (Tryz.prog.info? 112).map (fun i => (i.zero, i.size, i.bytes)) = some (some (.agg #[.int .i64 0, .int .i64 0, .int .i64 0, .int .i64 0, .int .i64 0, .int .i64 0, .int .i64 0, .string ⟨#[]⟩, .string ⟨#[]⟩]), 9, 88) := by kernel_rfl
theorem eqCmd_same (who seq op a b c : Int) (key text : ByteArray) (w : World) :
 Calls Tryz.prog 179 #[.agg #[.int .i64 who, .int .i64 seq, .int .i64 op, .int .i64 a, .int .i64 b, .int .i64 c, .string key, .string text], .agg #[.int .i64 who, .int .i64 seq, .int .i64 op, .int .i64 a, .int .i64 b, .int .i64 c, .string key, .string text]] w fun e w' => e = .returned (.bool true) /\ Below w.heap.size w w' := by
 go_enter Tryz.func179, Tryz.ntmps179
 go_wp2
 go_ret
 exact ⟨rfl, by repeat (first | exact Below.refl _ _ | assumption | refine via0 (by assumption) ?_ | refine Below.drew ?_ | refine Qaa ?_ _)⟩
theorem Qjk (term who seq op a b c : Int) (key text : ByteArray) (w : World) :
 Calls Tryz.prog 153 #[.agg #[.int .i64 term, .int .i64 who, .int .i64 seq, .int .i64 op, .int .i64 a, .int .i64 b, .int .i64 c, .string key, .string text], .agg #[.int .i64 term, .int .i64 who, .int .i64 seq, .int .i64 op, .int .i64 a, .int .i64 b, .int .i64 c, .string key, .string text]] w fun e w' => e = .returned (.bool true) /\ Below w.heap.size w w' := by
 go_enter Tryz.func153, Tryz.ntmps153
 go_wp2_with (go_at_call 179; refine (eqCmd_same _ _ _ _ _ _ _ _ _).mono ?_; rintro e w1 ⟨rfl, g1⟩)
 go_ret
 exact ⟨rfl, by repeat (first | exact Below.refl _ _ | assumption | refine via0 (by assumption) ?_ | refine Below.drew ?_ | refine Qaa ?_ _)⟩
theorem Qd4 (A A' : Option Addr) (cap cap' : Nat) (l : List En) (hl : l.length <= 9223372036854775807) (w : World) (hA : At w A l) (hA' : At w A' l) :
 Calls Tryz.prog 115 #[.slice A l.length cap, .slice A' l.length cap'] w fun e w' => e = .returned (.bool true) /\ Below w.heap.size w w' := by
 have HA := hidP hA
 have HA' := hidP hA'
 clear hA hA'
 go_enter Tryz.func115, Tryz.ntmps115
 go_wp2
 go_loopw [5] (fun i w' => ∃ (n : Nat), i = .int .i64 (n : Int) /\ n <= l.length /\ Below w.heap.size w w') (fun i _ => l.length - (intOf i).toNat)
 case atStart => exact ⟨0, rfl, by omega, Below.refl _ _⟩
 case round =>
  obtain ⟨n, rfl, hn, hbl⟩ := hrel
  by_cases hlt : n < l.length
  . obtain ⟨b, o, rfl, hbs, hin⟩ : ∃ b o, A = some ⟨b, o, none⟩ /\ b < w.heap.size /\ In w b o l := by
     rcases HA.out with h | h
     . subst h; simp at hlt
     . exact h
    obtain ⟨b', o', rfl, hbs', hin'⟩ : ∃ b o, A' = some ⟨b, o, none⟩ /\ b < w.heap.size /\ In w b o l := by
     rcases HA'.out with h | h
     . subst h; simp at hlt
     . exact h
    obtain ⟨c0, c1, c2, c3, c4, c5, c6, c7, c8⟩ := (hin.below hbs hbl).getEn n hlt
    obtain ⟨d0, d1, d2, d3, d4, d5, d6, d7, d8⟩ := (hin'.below hbs' hbl).getEn n hlt
    have hb1 : b < wr.heap.size := Nat.lt_of_lt_of_le hbs hbl.size
    have hb2 : b' < wr.heap.size := Nat.lt_of_lt_of_le hbs' hbl.size
    have hi0 : (0 : Int) <= (n : Int) := by omega
    have hi1 : (n : Int) < (l.length : Int) := by omega
    go_wp2
    go_region_held3 (fun w' => w'.cell? ⟨b, o + n * 9, none⟩ = some (.int .i64 l[n].term) /\ w'.cell? ⟨b, o + n * 9 + 1, none⟩ = some (.int .i64 l[n].who) /\ w'.cell? ⟨b, o + n * 9 + 2, none⟩ = some (.int .i64 l[n].seq) /\ w'.cell? ⟨b, o + n * 9 + 3, none⟩ = some (.int .i64 l[n].op) /\ w'.cell? ⟨b, o + n * 9 + 4, none⟩ = some (.int .i64 l[n].a) /\ w'.cell? ⟨b, o + n * 9 + 5, none⟩ = some (.int .i64 l[n].b) /\ w'.cell? ⟨b, o + n * 9 + 6, none⟩ = some (.int .i64 l[n].c) /\ w'.cell? ⟨b, o + n * 9 + 7, none⟩ = some (.string l[n].key) /\ w'.cell? ⟨b, o + n * 9 + 8, none⟩ = some (.string l[n].text) /\ w'.cell? ⟨b', o' + n * 9, none⟩ = some (.int .i64 l[n].term) /\ w'.cell? ⟨b', o' + n * 9 + 1, none⟩ = some (.int .i64 l[n].who) /\ w'.cell? ⟨b', o' + n * 9 + 2, none⟩ = some (.int .i64 l[n].seq) /\ w'.cell? ⟨b', o' + n * 9 + 3, none⟩ = some (.int .i64 l[n].op) /\ w'.cell? ⟨b', o' + n * 9 + 4, none⟩ = some (.int .i64 l[n].a) /\ w'.cell? ⟨b', o' + n * 9 + 5, none⟩ = some (.int .i64 l[n].b) /\ w'.cell? ⟨b', o' + n * 9 + 6, none⟩ = some (.int .i64 l[n].c) /\ w'.cell? ⟨b', o' + n * 9 + 7, none⟩ = some (.string l[n].key) /\ w'.cell? ⟨b', o' + n * 9 + 8, none⟩ = some (.string l[n].text) /\ wr.heap.size <= w'.heap.size)
     (first | (go_split_ands; refine ⟨?_, ?_, ?_, ?_, ?_, ?_, ?_, ?_, ?_, ?_, ?_, ?_, ?_, ?_, ?_, ?_, ?_, ?_, ?_⟩<;>first | assumption | exact (k1 _ _ hb1).trans (by assumption) | exact (k1 _ _ hb2).trans (by assumption) | exact s1 | (simp; done)) | go_keep)
     (first
      | (go_at_call 153; refine (Qjk _ _ _ _ _ _ _ _ _ _).mono ?_; rintro e w1 ⟨rfl, g1⟩; obtain ⟨k1, m1⟩ := Qaj g1; have s1 := g1.size))
    all_goals
     go_wp2
     exact ⟨⟨n + 1, by go_num, by omega, via0 g1 hbl.drew⟩, by simp [intOf]; omega⟩
  . go_wp2
    go_ret
    exact ⟨rfl, hbl⟩
def markEn (z : Int) : En := ⟨z, z + 1, z + 2, z + 3, z + 4, z + 5, z + 6, Items.markZ (z + 7), Items.markZ (z + 8)⟩
def Qal (n : Nat) (z : Int) : List En := (List.range n).map fun (i : Nat) => markEn (z + (i : Int) * 9)
theorem Qax (n : Nat) (z : Int) : (Qal n z).length = n := by simp [Qal]
theorem Qil (n : Nat) (z : Int) : Qal (n + 1) z = Qal n z ++ [markEn (z + (n : Int) * 9)] := by simp [Qal, List.range_succ]
theorem Qj4 (n : Nat) (z : Int) (i : Nat) (h : i < (Qal n z).length) : (Qal n z)[i] = markEn (z + (i : Int) * 9) := by simp [Qal]
theorem Qim (n : Nat) (k z : Int) (hz : z = k + (n : Int) * 9) :
 flat (Qal n k) ++ [.int .i64 z] ++ [.int .i64 (z + 1)] ++ [.int .i64 (z + 1 + 1)] ++ [.int .i64 (z + 1 + 1 + 1)] ++ [.int .i64 (z + 1 + 1 + 1 + 1)] ++ [.int .i64 (z + 1 + 1 + 1 + 1 + 1)] ++ [.int .i64 (z + 1 + 1 + 1 + 1 + 1 + 1)] ++ [.string (Items.markZ (z + 1 + 1 + 1 + 1 + 1 + 1 + 1))] ++ [.string (Items.markZ (z + 1 + 1 + 1 + 1 + 1 + 1 + 1 + 1))] = flat (Qal (n + 1) k) := by
 subst hz
 have e2 : ∀ z : Int, z + 1 + 1 = z + 2 := fun z => by omega
 have e3 : ∀ z : Int, z + 1 + 1 + 1 = z + 3 := fun z => by omega
 have e4 : ∀ z : Int, z + 1 + 1 + 1 + 1 = z + 4 := fun z => by omega
 have e5 : ∀ z : Int, z + 1 + 1 + 1 + 1 + 1 = z + 5 := fun z => by omega
 have e6 : ∀ z : Int, z + 1 + 1 + 1 + 1 + 1 + 1 = z + 6 := fun z => by omega
 have e7 : ∀ z : Int, z + 1 + 1 + 1 + 1 + 1 + 1 + 1 = z + 7 := fun z => by omega
 have e8 : ∀ z : Int, z + 1 + 1 + 1 + 1 + 1 + 1 + 1 + 1 = z + 8 := fun z => by omega
 rw [Qil, Qa1, Qbp, e8, e7, e6, e5, e4, e3, e2]
 simp [Cel.cs, markEn]
theorem Qdk (b o cap m : Nat) (k : Int) (hk : 1 <= k) (hk' : k <= 100000000) (hm : m <= 3000000) (w : World) (hb : b < w.heap.size) (hth : w.there b o (m * 9)) :
 Calls Tryz.prog 69 #[.slice (some ⟨b, o, none⟩) m cap, .int .i64 k] w fun e w' => e = .returned (.int .i64 (k + (m : Int) * 9)) /\ Only b w w' /\ In w' b o (Qal m k) /\ w'.there b o (m * 9) := by
 have HT := hidP hth
 clear hth
 go_enter Tryz.func69, Tryz.ntmps69
 go_wp2
 go_loopw [1, 5] (fun kk i w' => ∃ (n : Nat) (z : Int), i = .int .i64 (n : Int) /\ kk = .int .i64 z /\ n <= m /\ 1 <= z /\ z <= 900000000 /\ Only b w w' /\ Hid (z = k + (n : Int) * 9) /\ Hid (In w' b o (Qal n k)) /\ Hid (w'.there b o (m * 9))) (fun _ i _ => m - (intOf i).toNat)
 case atStart => exact ⟨0, k, rfl, rfl, by omega, hk, by omega, Only.refl _ _, by simp [Hid], In.nil _ _ _, HT.out⟩
 case round =>
  obtain ⟨n, z, rfl, rfl, hn, hz1, hz2, ho, hz, hin, hth⟩ := hrel
  by_cases hlt : n < m
  . obtain ⟨⟨v0, d0⟩, f0⟩ := Qaf (f := 0) hth.out hlt (by omega)
    rw [Nat.add_zero] at d0 f0
    obtain ⟨⟨v1, d1⟩, f1⟩ := Qaf (f := 1) hth.out hlt (by omega)
    obtain ⟨⟨v2, d2⟩, f2⟩ := Qaf (f := 2) hth.out hlt (by omega)
    obtain ⟨⟨v3, d3⟩, f3⟩ := Qaf (f := 3) hth.out hlt (by omega)
    obtain ⟨⟨v4, d4⟩, f4⟩ := Qaf (f := 4) hth.out hlt (by omega)
    obtain ⟨⟨v5, d5⟩, f5⟩ := Qaf (f := 5) hth.out hlt (by omega)
    obtain ⟨⟨v6, d6⟩, f6⟩ := Qaf (f := 6) hth.out hlt (by omega)
    obtain ⟨⟨v7, d7⟩, f7⟩ := Qaf (f := 7) hth.out hlt (by omega)
    obtain ⟨⟨v8, d8⟩, f8⟩ := Qaf (f := 8) hth.out hlt (by omega)
    have q1 : b < wr.heap.size := Nat.lt_of_lt_of_le hb ho.size
    go_wp2_with fail
    refine (Items.markText_at _ (by omega) (by omega) _).mono ?_
    rintro e w1 ⟨rfl, g1⟩
    obtain ⟨k1, m1⟩ := Qaj g1
    have q2 : b < w1.heap.size := (by have t1 := g1.size; simp at t1; exact Nat.lt_of_lt_of_le q1 t1)
    go_wp2_with fail
    refine (Items.markText_at _ (by omega) (by omega) _).mono ?_
    rintro e w2 ⟨rfl, g2⟩
    obtain ⟨k2, m2⟩ := Qaj g2
    have q3 : b < w2.heap.size := (by have t1 := g2.size; simp at t1; exact Nat.lt_of_lt_of_le q2 t1)
    go_wp2
    have hlen : (flat (Qal n k)).length = n * 9 := by rw [Qap, Qax]; rfl
    have P0 := push (v := .int .i64 z) (q := o + n * 9) ⟨hin.out, hth.out, Nat.lt_of_lt_of_le hb ho.size⟩ (by rw [hlen]; omega) (by rw [hlen])
    have P1 := push (v := .int .i64 (z + 1)) (q := o + n * 9 + 1) P0 (by simp [hlen]; omega) (by simp [hlen]; omega)
    have P2 := push (v := .int .i64 (z + 1 + 1)) (q := o + n * 9 + 1 + 1) P1 (by simp [hlen]; omega) (by simp [hlen]; omega)
    have P3 := push (v := .int .i64 (z + 1 + 1 + 1)) (q := o + n * 9 + 1 + 2) P2 (by simp [hlen]; omega) (by simp [hlen]; omega)
    have P4 := push (v := .int .i64 (z + 1 + 1 + 1 + 1)) (q := o + n * 9 + 1 + 3) P3 (by simp [hlen]; omega) (by simp [hlen]; omega)
    have P5 := push (v := .int .i64 (z + 1 + 1 + 1 + 1 + 1)) (q := o + n * 9 + 1 + 4) P4 (by simp [hlen]; omega) (by simp [hlen]; omega)
    have P6 := push (v := .int .i64 (z + 1 + 1 + 1 + 1 + 1 + 1)) (q := o + n * 9 + 1 + 5) P5 (by simp [hlen]; omega) (by simp [hlen]; omega)
    have P7 := push (v := .string (Items.markZ (z + 1 + 1 + 1 + 1 + 1 + 1 + 1))) (q := o + n * 9 + 1 + 6) (Qeq P6 g1) (by simp [hlen]; omega) (by simp [hlen]; omega)
    have P8 := push (v := .string (Items.markZ (z + 1 + 1 + 1 + 1 + 1 + 1 + 1 + 1))) (q := o + n * 9 + 1 + 7) (Qeq P7 g2) (by simp [hlen]; omega) (by simp [hlen]; omega)
    rw [Qim n k z hz.out] at P8
    have hz' := hz.out
    refine ⟨⟨n + 1, z + 1 + 1 + 1 + 1 + 1 + 1 + 1 + 1 + 1, by go_num, rfl, by omega, by omega, by omega, ?_, by show z + 1 + 1 + 1 + 1 + 1 + 1 + 1 + 1 + 1 = _; omega, P8.1, P8.2.1⟩, by simp [intOf]; omega⟩
    exact ((((((((((ho.set _ _).set _ _).set _ _).set _ _).set _ _).set _ _).set _ _).below g1).set _ _).below g2).set _ _
  . obtain rfl : n = m := by omega
    go_wp2
    go_ret
    have e := hz.out
    subst e
    exact ⟨rfl, ho, hin.out, hth.out⟩
theorem Qdo (A : Option Addr) (cap m : Nat) (k : Int) (hk : 1 <= k) (hk' : k <= 100000000) (hm : m <= 3000000) (w : World)
 (hA : m = 0 ∨ ∃ b o, A = some ⟨b, o, none⟩ /\ b < w.heap.size /\ In w b o (Qal m k)) :
 Calls Tryz.prog 77 #[.slice A m cap, .int .i64 k] w fun e w' => e = .returned (.int .i64 (k + (m : Int) * 9)) /\ Below w.heap.size w w' := by
 have HA := hidP hA
 clear hA
 go_enter Tryz.func77, Tryz.ntmps77
 go_wp2
 go_loopw [1, 5] (fun kk i w' => ∃ (n : Nat) (z : Int), i = .int .i64 (n : Int) /\ kk = .int .i64 z /\ n <= m /\ 1 <= z /\ z <= 900000000 /\ Hid (z = k + (n : Int) * 9) /\ Below w.heap.size w w') (fun _ i _ => m - (intOf i).toNat)
 case atStart => exact ⟨0, k, rfl, rfl, by omega, hk, by omega, by simp [Hid], Below.refl _ _⟩
 case round =>
  obtain ⟨n, z, rfl, rfl, hn, hz1, hz2, hz, hbl⟩ := hrel
  by_cases hlt : n < m
  . obtain ⟨b, o, rfl, hbs, hin⟩ : ∃ b o, A = some ⟨b, o, none⟩ /\ b < w.heap.size /\ In w b o (Qal m k) := by
     rcases HA.out with h | h
     . omega
     . exact h
    have hb1 : b < wr.heap.size := Nat.lt_of_lt_of_le hbs hbl.size
    obtain ⟨c0, c1, c2, c3, c4, c5, c6, c7, c8⟩ : wr.cell? ⟨b, o + n * 9, none⟩ = some (.int .i64 z) /\ wr.cell? ⟨b, o + n * 9 + 1, none⟩ = some (.int .i64 (z + 1)) /\ wr.cell? ⟨b, o + n * 9 + 2, none⟩ = some (.int .i64 (z + 1 + 1)) /\ wr.cell? ⟨b, o + n * 9 + 3, none⟩ = some (.int .i64 (z + 1 + 1 + 1)) /\ wr.cell? ⟨b, o + n * 9 + 4, none⟩ = some (.int .i64 (z + 1 + 1 + 1 + 1)) /\ wr.cell? ⟨b, o + n * 9 + 5, none⟩ = some (.int .i64 (z + 1 + 1 + 1 + 1 + 1)) /\ wr.cell? ⟨b, o + n * 9 + 6, none⟩ = some (.int .i64 (z + 1 + 1 + 1 + 1 + 1 + 1)) /\ wr.cell? ⟨b, o + n * 9 + 7, none⟩ = some (.string (Items.markZ (z + 1 + 1 + 1 + 1 + 1 + 1 + 1))) /\ wr.cell? ⟨b, o + n * 9 + 8, none⟩ = some (.string (Items.markZ (z + 1 + 1 + 1 + 1 + 1 + 1 + 1 + 1))) := by
     have h := (hin.below hbs hbl).getEn n (by rw [Qax]; exact hlt)
     rw [Qj4] at h
     have e2 : z + 1 + 1 = z + 2 := by omega
     have e3 : z + 1 + 1 + 1 = z + 3 := by omega
     have e4 : z + 1 + 1 + 1 + 1 = z + 4 := by omega
     have e5 : z + 1 + 1 + 1 + 1 + 1 = z + 5 := by omega
     have e6 : z + 1 + 1 + 1 + 1 + 1 + 1 = z + 6 := by omega
     have e7 : z + 1 + 1 + 1 + 1 + 1 + 1 + 1 = z + 7 := by omega
     have e8 : z + 1 + 1 + 1 + 1 + 1 + 1 + 1 + 1 = z + 8 := by omega
     rw [e8, e7, e6, e5, e4, e3, e2, hz.out]
     exact h
    have hi0 : (0 : Int) <= (n : Int) := by omega
    have hi1 : (n : Int) < (m : Int) := by omega
    go_wp2
    go_region_held3 (fun w' => w'.cell? ⟨b, o + n * 9 + 7, none⟩ = some (.string (Items.markZ (z + 1 + 1 + 1 + 1 + 1 + 1 + 1))) /\ w'.cell? ⟨b, o + n * 9 + 8, none⟩ = some (.string (Items.markZ (z + 1 + 1 + 1 + 1 + 1 + 1 + 1 + 1))) /\ b < w'.heap.size)
     (first | (go_split_ands; refine ⟨?_, ?_, ?_⟩<;>first | assumption | exact (k1 _ _ (by assumption)).trans (by assumption) | exact Nat.lt_of_lt_of_le (by assumption) s1 | (simp; done)) | go_keep)
     (first
      | (go_at_call 70; refine (Items.markText_at _ ?_ ?_ _).mono ?_; omega; omega; rintro e w1 ⟨rfl, g1⟩; obtain ⟨k1, m1⟩ := Qaj g1; have s1 := g1.size))
    go_split_ands
    go_wp2
    go_region_held3 (fun w' => w'.cell? ⟨b, o + n * 9 + 8, none⟩ = some (.string (Items.markZ (z + 1 + 1 + 1 + 1 + 1 + 1 + 1 + 1))) /\ b < w'.heap.size)
     (first | (go_split_ands; refine ⟨?_, ?_⟩<;>first | assumption | exact (k2 _ _ (by assumption)).trans (by assumption) | exact Nat.lt_of_lt_of_le (by assumption) s2 | (simp; done)) | go_keep)
     (first
      | (go_at_call 70; refine (Items.markText_at _ ?_ ?_ _).mono ?_; omega; omega; rintro e w2 ⟨rfl, g2⟩; obtain ⟨k2, m2⟩ := Qaj g2; have s2 := g2.size))
    go_split_ands
    go_wp2
    have hz' := hz.out
    exact ⟨⟨n + 1, z + 1 + 1 + 1 + 1 + 1 + 1 + 1 + 1 + 1, by go_num, rfl, by omega, by omega, by omega, by show z + 1 + 1 + 1 + 1 + 1 + 1 + 1 + 1 + 1 = _; omega, via0 g2 (via0 g1 hbl.drew).drew⟩, by simp [intOf]; omega⟩
  . obtain rfl : n = m := by omega
    go_wp2
    go_ret
    have e := hz.out
    subst e
    exact ⟨rfl, hbl⟩
structure Three (n : Nat) (w : World) (x y z : Nat) (m b o : List Int) : Prop where
  nx : n <= x
  xy : x < y
  yz : y < z
  zs : z < w.heap.size
  im : In w x 0 m
  ib : In w y 0 b
  io : In w z 0 o
  tm : w.there x 0 (m.length * 1)
  tb : w.there y 0 (b.length * 1)
  to : w.there z 0 (o.length * 1)
theorem Qjj (gen : Int) (A B C A' B' C' : Option Addr) (ca cb cc ca' cb' cc' : Nat) (m b o : List Int) (hm : m.length <= 9223372036854775807) (hb : b.length <= 9223372036854775807) (ho : o.length <= 9223372036854775807) (w : World)
 (hA : At w A m) (hB : At w B b) (hC : At w C o) (hA' : At w A' m) (hB' : At w B' b) (hC' : At w C' o) :
 Calls Tryz.prog 118 #[.agg #[.int .i64 gen, .slice A m.length ca, .slice B b.length cb, .slice C o.length cc], .agg #[.int .i64 gen, .slice A' m.length ca', .slice B' b.length cb', .slice C' o.length cc']] w fun e w' => e = .returned (.bool true) /\ Below w.heap.size w w' := by
 have HA := hidP hA
 have HB := hidP hB
 have HC := hidP hC
 have HA' := hidP hA'
 have HB' := hidP hB'
 have HC' := hidP hC'
 clear hA hB hC hA' hB' hC'
 go_enter Tryz.func118, Tryz.ntmps118
 go_wp2_with fail
 have B0 : Below w.heap.size w ((w.alloc (.cells #[.int .i64 gen, .slice A m.length ca, .slice B b.length cb, .slice C o.length cc] 75)).alloc (.cells #[.int .i64 gen, .slice A' m.length ca', .slice B' b.length cb', .slice C' o.length cc'] 75)) := by repeat (first | exact Below.refl _ _ | assumption | refine via0 (by assumption) ?_ | refine Below.drew ?_ | refine Qaa ?_ _)
 have p0 : Blk ((w.alloc (.cells #[.int .i64 gen, .slice A m.length ca, .slice B b.length cb, .slice C o.length cc] 75)).alloc (.cells #[.int .i64 gen, .slice A' m.length ca', .slice B' b.length cb', .slice C' o.length cc'] 75)) w.heap.size 75 #[.int .i64 gen, .slice A m.length ca, .slice B b.length cb, .slice C o.length cc] := (Blk.new w 75 #[.int .i64 gen, .slice A m.length ca, .slice B b.length cb, .slice C o.length cc]).alloc _
 have p1 : Blk ((w.alloc (.cells #[.int .i64 gen, .slice A m.length ca, .slice B b.length cb, .slice C o.length cc] 75)).alloc (.cells #[.int .i64 gen, .slice A' m.length ca', .slice B' b.length cb', .slice C' o.length cc'] 75)) (w.heap.size + 1) 75 #[.int .i64 gen, .slice A' m.length ca', .slice B' b.length cb', .slice C' o.length cc'] := by simpa using Blk.new (w.alloc (.cells #[.int .i64 gen, .slice A m.length ca, .slice B b.length cb, .slice C o.length cc] 75)) 75 #[.int .i64 gen, .slice A' m.length ca', .slice B' b.length cb', .slice C' o.length cc']
 refine (Qcd A A' ca ca' m hm _ (HA.out.below B0) (HA'.out.below B0)).mono ?_
 rintro e w1 ⟨rfl, g1⟩
 have B1 := via0 g1 B0
 have r0 := p0.below g1 p0.lt
 have r1 := p1.below g1 p1.lt
 clear p0 p1 g1 B0
 obtain ⟨u0, u1, u2, u3⟩ := r0.row4
 obtain ⟨n0, n1, n2, n3⟩ := r1.row4
 go_wp2_with fail
 refine (Qcd B B' cb cb' b hb _ (HB.out.below B1) (HB'.out.below B1)).mono ?_
 rintro e w2 ⟨rfl, g2⟩
 have B2 := via0 g2 B1
 have s0 := r0.below g2 r0.lt
 have s1 := r1.below g2 r1.lt
 clear r0 r1 g2 B1 u0 u1 u2 u3 n0 n1 n2 n3
 obtain ⟨u0, u1, u2, u3⟩ := s0.row4
 obtain ⟨n0, n1, n2, n3⟩ := s1.row4
 go_wp2_with fail
 refine (Qcd C C' cc cc' o ho _ (HC.out.below B2) (HC'.out.below B2)).mono ?_
 rintro e w3 ⟨rfl, g3⟩
 have B3 := via0 g3 B2
 go_wp2
 go_ret
 exact ⟨rfl, B3⟩
structure GC where
  gen : Int
  a1 : Option Addr
  c1 : Nat
  m : List Int
  a2 : Option Addr
  c2 : Nat
  b : List Int
  a3 : Option Addr
  c3 : Nat
  o : List Int
instance : Inhabited GC := ⟨⟨0, none, 0, [], none, 0, [], none, 0, []⟩⟩
instance : Cel GC where
  k := 4
  cs x := [.int .i64 x.gen, .slice x.a1 x.m.length x.c1, .slice x.a2 x.b.length x.c2, .slice x.a3 x.o.length x.c3]
  len _ := rfl
  one x u hu := by simp at hu; rcases hu with rfl | rfl | rfl | rfl<;>rfl
structure PG where
  gen : Int
  m : List Int
  b : List Int
  o : List Int
def GC.p (x : GC) : PG := ⟨x.gen, x.m, x.b, x.o⟩
def atG (w : World) (x : GC) : Prop := At w x.a1 x.m /\ At w x.a2 x.b /\ At w x.a3 x.o
theorem atG.below {w w' : World} {x : GC} (h : atG w x) (hw : Below w.heap.size w w') : atG w' x := ⟨h.1.below hw, h.2.1.below hw, h.2.2.below hw⟩
def EachG (w : World) (l : List GC) : Prop := ∀ x ∈ l, atG w x
theorem EachG.below {w w' : World} {l : List GC} (h : EachG w l) (hw : Below w.heap.size w w') : EachG w' l := fun x hx => (h x hx).below hw
def grpP (w : World) (x : GC) (S : Nat -> Prop) : Prop :=
  ∃ S1 S2 S3 : Nat -> Prop, (∀ y, S1 y -> S y) /\ (∀ y, S2 y -> S y) /\ (∀ y, S3 y -> S y) /\ (∀ y, S1 y -> ¬ S2 y) /\ (∀ y, S1 y -> ¬ S3 y) /\ (∀ y, S2 y -> ¬ S3 y) /\ Sub w x.a1 x.m S1 /\ Sub w x.a2 x.b S2 /\ Sub w x.a3 x.o S3
theorem Qar : Firm grpP := fun w w' x S T ⟨S1, S2, S3, i1, i2, i3, d1, d2, d3, s1, s2, s3⟩ k hd =>
 ⟨S1, S2, S3, i1, i2, i3, d1, d2, d3, s1.offp k (fun y hy => hd y (i1 y hy)), s2.offp k (fun y hy => hd y (i2 y hy)), s3.offp k (fun y hy => hd y (i3 y hy))⟩
theorem grpP_at {w : World} {x : GC} {S : Nat -> Prop} (h : grpP w x S) : atG w x := by
 obtain ⟨S1, S2, S3, i1, i2, i3, d1, d2, d3, s1, s2, s3⟩ := h
 exact ⟨s1.at, s2.at, s3.at⟩
theorem grpP_each {S : Nat -> Prop} {w : World} {a : Option Addr} {l : List GC} (h : Own grpP w a l S) : EachG w l := h.each (fun x S hx => grpP_at hx)
theorem In.getGC {w : World} {b o : Nat} {l : List GC} (h : In w b o l) (i : Nat) (hi : i < l.length) :
 w.cell? ⟨b, o + i * 4, none⟩ = some (.int .i64 l[i].gen) /\ w.cell? ⟨b, o + i * 4 + 1, none⟩ = some (.slice l[i].a1 l[i].m.length l[i].c1) /\ w.cell? ⟨b, o + i * 4 + 2, none⟩ = some (.slice l[i].a2 l[i].b.length l[i].c2) /\ w.cell? ⟨b, o + i * 4 + 3, none⟩ = some (.slice l[i].a3 l[i].o.length l[i].c3) :=
 ⟨h.cell i hi (f := 0) rfl, h.cell i hi (f := 1) rfl, h.cell i hi (f := 2) rfl, h.cell i hi (f := 3) rfl⟩
theorem infoGC : (Tryz.prog.info? 75).map (fun i => (i.zero, i.size, i.bytes)) = some (some (.agg #[.int .i64 0, .slice none 0 0, .slice none 0 0, .slice none 0 0]), 4, 80) := by kernel_rfl
theorem Qhf (A A' : Option Addr) (cap cap' : Nat) (l l' : List GC) (hl : l.length <= 9223372036854775807) (hr : ∀ x ∈ l, x.m.length <= 9223372036854775807 /\ x.b.length <= 9223372036854775807 /\ x.o.length <= 9223372036854775807) (hsame : l'.map GC.p = l.map GC.p) (w : World) (hA : At w A l) (hE : EachG w l) (hA' : At w A' l') (hE' : EachG w l') :
 Calls Tryz.prog 59 #[.slice A l.length cap, .slice A' l.length cap'] w fun e w' => e = .returned (.bool true) /\ Below w.heap.size w w' := by
 have HA := hidP hA
 have HE := hidP hE
 have HA' := hidP hA'
 have HE' := hidP hE'
 have Hr := hidP hr
 have HS := hidP hsame
 have HLL : Hid (l'.length = l.length) := by have := congrArg List.length hsame; show _ = _; simpa using this
 clear hA hE hA' hE' hr hsame
 go_enter Tryz.func59, Tryz.ntmps59
 go_wp2
 go_loopw [5] (fun i w' => ∃ (n : Nat), i = .int .i64 (n : Int) /\ n <= l.length /\ Below w.heap.size w w') (fun i _ => l.length - (intOf i).toNat)
 case atStart => exact ⟨0, rfl, by omega, Below.refl _ _⟩
 case round =>
  obtain ⟨n, rfl, hn, hbl⟩ := hrel
  by_cases hlt : n < l.length
  . have hll := HLL.out
    obtain ⟨b, o, rfl, hbs, hin⟩ : ∃ b o, A = some ⟨b, o, none⟩ /\ b < w.heap.size /\ In w b o l := by
     rcases HA.out with h | h
     . subst h; simp at hlt
     . exact h
    obtain ⟨b', o', rfl, hbs', hin'⟩ : ∃ b o, A' = some ⟨b, o, none⟩ /\ b < w.heap.size /\ In w b o l' := by
     rcases HA'.out with h | h
     . subst h; simp at hll; omega
     . exact h
    have hp : (l'[n]'(by omega)).p = l[n].p := by
     have h1 : (l'.map GC.p)[n]'(by simp; omega) = (l.map GC.p)[n]'(by simpa using hlt) := by simp only [HS.out]
     simpa using h1
    obtain ⟨c0, c1, c2, c3⟩ := (hin.below hbs hbl).getGC n hlt
    obtain ⟨d0, d1, d2, d3⟩ := (hin'.below hbs' hbl).getGC n (by omega)
    have hat := HE.out _ (List.getElem_mem hlt)
    have hat' := HE'.out _ (List.getElem_mem (show n < l'.length by omega))
    have hms := Hr.out _ (List.getElem_mem hlt)
    generalize l'[n]'(by omega) = y at hp d0 d1 d2 d3 hat'
    generalize l[n] = x at hp c0 c1 c2 c3 hat hms
    obtain ⟨yg, y1, yc1, ym, y2, yc2, yb, y3, yc3, yo⟩ := y
    obtain ⟨xg, x1, xc1, xm, x2, xc2, xb, x3, xc3, xo⟩ := x
    simp only [GC.p, PG.mk.injEq] at hp
    obtain ⟨rfl, rfl, rfl, rfl⟩ := hp
    simp only at c0 c1 c2 c3 d0 d1 d2 d3 hms
    have Hat := hidP (hat.below hbl)
    have Hat' := hidP (hat'.below hbl)
    clear hat hat' hll
    have hb1 : b < wr.heap.size := Nat.lt_of_lt_of_le hbs hbl.size
    have hb2 : b' < wr.heap.size := Nat.lt_of_lt_of_le hbs' hbl.size
    have hi0 : (0 : Int) <= (n : Int) := by omega
    have hi1 : (n : Int) < (l.length : Int) := by omega
    go_wp2
    go_region_held3 (fun w' => w'.cell? ⟨b, o + n * 4, none⟩ = some (.int .i64 yg) /\ w'.cell? ⟨b, o + n * 4 + 1, none⟩ = some (.slice x1 ym.length xc1) /\ w'.cell? ⟨b, o + n * 4 + 2, none⟩ = some (.slice x2 yb.length xc2) /\ w'.cell? ⟨b, o + n * 4 + 3, none⟩ = some (.slice x3 yo.length xc3) /\
     w'.cell? ⟨b', o' + n * 4, none⟩ = some (.int .i64 yg) /\ w'.cell? ⟨b', o' + n * 4 + 1, none⟩ = some (.slice y1 ym.length yc1) /\ w'.cell? ⟨b', o' + n * 4 + 2, none⟩ = some (.slice y2 yb.length yc2) /\ w'.cell? ⟨b', o' + n * 4 + 3, none⟩ = some (.slice y3 yo.length yc3) /\ wr.heap.size <= w'.heap.size)
     (first | (go_split_ands; refine ⟨?_, ?_, ?_, ?_, ?_, ?_, ?_, ?_, ?_⟩<;>first | assumption | exact (k1 _ _ hb1).trans (by assumption) | exact (k1 _ _ hb2).trans (by assumption) | exact s1 | (simp; done)) | go_keep)
     (first
      | (go_at_call 118; refine (Qjj _ _ _ _ _ _ _ _ _ _ _ _ _ ym yb yo hms.1 hms.2.1 hms.2.2 _ (Hat.out.1.below (Below.drew (Below.refl _ _))) (Hat.out.2.1.below (Below.drew (Below.refl _ _))) (Hat.out.2.2.below (Below.drew (Below.refl _ _))) (Hat'.out.1.below (Below.drew (Below.refl _ _))) (Hat'.out.2.1.below (Below.drew (Below.refl _ _))) (Hat'.out.2.2.below (Below.drew (Below.refl _ _)))).mono ?_; rintro e w1 ⟨rfl, g1⟩; obtain ⟨k1, m1⟩ := Qaj g1; have s1 := g1.size))
    all_goals
     go_wp2
     exact ⟨⟨n + 1, by go_num, by omega, via0 g1 hbl.drew⟩, by simp [intOf]; omega⟩
  . go_wp2
    go_ret
    exact ⟨rfl, hbl⟩
def cG (x : GC) : Nat := 1 + x.m.length + x.b.length + x.o.length
def mG (x : GC) (z : Int) : GC := ⟨z, x.a1, x.c1, Qae x.m.length (z + 1), x.a2, x.c2, Qae x.b.length (z + 1 + x.m.length), x.a3, x.c3, Qae x.o.length (z + 1 + x.m.length + x.b.length)⟩
theorem Qcw (a : Option Addr) (cap : Nat) (l : List Int) (S : Nat -> Prop) (k : Int) (hk : 1 <= k) (hk' : k <= 100000000) (hl : l.length <= 2000000) (w : World) (h : Sub w a l S) :
 Calls Tryz.prog 28 #[.slice a l.length cap, .int .i64 k] w fun e w' => e = .returned (.int .i64 (k + (l.length : Int))) /\ Offp S w w' /\ Sub w' a (Qae l.length k) S := by
 rcases h with rfl | ⟨b, o, rfl, hS, hb, hi, ht⟩
 . refine (Qiv a cap k w).mono ?_
   rintro e w' ⟨rfl, rfl⟩
   exact ⟨by simp, Offp.refl _ _, .inl rfl⟩
 . refine (Qkc b o cap l.length k hk hk' hl w hb ht).mono ?_
   rintro e w' ⟨rfl, ko, hin, hth⟩
   exact ⟨rfl, (Offp.of_only ko).mono (fun x e => e ▸ hS), .inr ⟨b, o, rfl, hS, Nat.lt_of_lt_of_le hb ko.size, hin, by rw [Qan]; exact hth⟩⟩
theorem Qf2 (b o cap : Nat) (l : List GC) (fp : Nat -> Nat -> Prop) (k : Int) (hk : 1 <= k) (hk' : k <= 50000000) (hc : Qac cG l <= 50000000) (hl : l.length <= 1048576) (hs : ∀ x ∈ l, x.m.length <= 1048576 /\ x.b.length <= 1048576 /\ x.o.length <= 1048576) (w : World) (hO : OwnF grpP w b o l fp) :
 Calls Tryz.prog 66 #[.slice (some ⟨b, o, none⟩) l.length cap, .int .i64 k] w fun e w' => e = .returned (.int .i64 (k + (Qac cG l : Int))) /\ Offp (fun x => x = b ∨ ∃ i, fp i x) w w' /\ OwnF grpP w' b o (marked mG cG l k) fp := by
 have HO := hidP hO
 have Hs := hidP hs
 have Hc := hidP hc
 clear hO hs hc
 go_enter Tryz.func66, Tryz.ntmps66
 go_wp2
 go_loopw [1, 5] (fun kk i w' => ∃ (n : Nat) (z : Int), i = .int .i64 (n : Int) /\ kk = .int .i64 z /\ n <= l.length /\ 1 <= z /\ z <= 100000000 /\ Hid (z = k + (Qac cG (l.take n) : Int)) /\ Hid (Offp (fun x => x = b ∨ ∃ i, fp i x) w w') /\ Hid (OwnF grpP w' b o (half mG cG l k n) fp)) (fun _ i _ => l.length - (intOf i).toNat)
 case atStart => exact ⟨0, k, rfl, rfl, by omega, hk, by omega, by simp [Hid, Qac], Offp.refl _ _, by rw [Qdz]; exact HO.out⟩
 case round =>
  obtain ⟨n, z, rfl, rfl, hn, hz1, hz2, hz, hoff, hown⟩ := hrel
  by_cases hlt : n < l.length
  . have hhl := Qc3 mG cG l k n
    have hge := Qeu mG cG l k n hlt (by omega)
    have hit := Hs.out _ (List.getElem_mem hlt)
    obtain ⟨c0, c1, c2, c3⟩ := hown.out.lst.getGC n (by omega)
    have hth := hown.out.th
    rw [hhl] at hth
    obtain ⟨_, f0⟩ := Qaf (f := 0) hth hlt (by decide)
    simp only [Nat.add_zero, show Cel.k GC = 4 from rfl] at f0
    rw [hge] at c0 c1 c2 c3
    have hsu := Qd0 mG cG l k n hlt
    rw [← hz.out] at hsu
    have hcn : Qac cG (l.take n) + cG l[n] <= 50000000 := by rw [← Qas cG l n hlt]; exact Nat.le_trans (Qcl cG l (n + 1)) Hc.out
    have Hsn := hidP (Qas cG l n hlt)
    generalize hx : l[n] = x at c0 c1 c2 c3 hit hsu hcn hge Hsn
    obtain ⟨xg, x1, xc1, xm, x2, xc2, xb, x3, xc3, xo⟩ := x
    simp only at c0 c1 c2 c3 hit
    have O1 := hown.out.set1 Qar n (by omega) ⟨z, x1, xc1, xm, x2, xc2, xb, x3, xc3, xo⟩ 0 (by decide) (.int .i64 z) (by rw [hge]; rfl) (fun W S h => by rw [hge] at h; exact h)
    simp only [Nat.add_zero, show Cel.k GC = 4 from rfl] at O1
    have Hhl := hidP hhl
    have Hsu := hidP hsu
    have Hcn := hidP hcn
    have HO1 := hidP O1
    have hsub := O1.sub n (by simp; omega)
    rw [List.getElem_set_self] at hsub
    obtain ⟨S1, S2, S3, i1, i2, i3, e1, e2, e3, s1, s2, s3⟩ := hsub
    have hlen : n < ((half mG cG l k n).set n ⟨z, x1, xc1, xm, x2, xc2, xb, x3, xc3, xo⟩).length := by rw [List.length_set]; omega
    have Hlen := hidP hlen
    have H1 := hidP s1
    have H2 := hidP s2
    have H3 := hidP s3
    have hzc : z + 1 + xm.length + xb.length + xo.length <= 100000000 := by
     have h3 := hz.out; have h4 := Hcn.out; simp only [cG] at h4; omega
    clear hx hhl hsu hcn O1 hge hth s1 s2 s3 hlen
    go_wp2_with fail
    refine (Qcw x1 xc1 xm S1 (z + 1) (by omega) (by omega) (by omega) _ H1.out).mono ?_
    rintro e w1 ⟨rfl, k1, t1⟩
    have O2 := HO1.out.turn Qar n Hlen.out ⟨z, x1, xc1, Qae xm.length (z + 1), x2, xc2, xb, x3, xc3, xo⟩ (by rw [List.getElem_set_self]; simp only [Cel.cs, Qan, mG]) (k1.mono i1) ⟨S1, S2, S3, i1, i2, i3, e1, e2, e3, t1, H2.out.offp k1 (fun y h h' => e1 y h' h), H3.out.offp k1 (fun y h h' => e2 y h' h)⟩
    rw [List.set_set] at O2
    obtain ⟨_, _, c2', c3'⟩ := O2.lst.getGC n (by simp; have := Hhl.out; omega)
    simp only [List.getElem_set_self] at c2' c3'
    have HO2 := hidP O2
    have Hk1 := hidP k1
    have Ht1 := hidP t1
    clear c0 c1 c2 c3 O2 k1 t1
    go_wp2_with fail
    refine (Qcw x2 xc2 xb S2 _ (by omega) (by omega) (by omega) _ (H2.out.offp Hk1.out (fun y h h' => e1 y h' h))).mono ?_
    rintro e w2 ⟨rfl, k2, t2⟩
    have O3 := HO2.out.turn Qar n (by rw [List.length_set]; have := Hhl.out; omega) ⟨z, x1, xc1, Qae xm.length (z + 1), x2, xc2, Qae xb.length (z + 1 + xm.length), x3, xc3, xo⟩ (by rw [List.getElem_set_self]; simp only [Cel.cs, Qan, mG]) (k2.mono i2) ⟨S1, S2, S3, i1, i2, i3, e1, e2, e3, Ht1.out.offp k2 e1, t2, (H3.out.offp Hk1.out (fun y h h' => e2 y h' h)).offp k2 (fun y h h' => e3 y h' h)⟩
    rw [List.set_set] at O3
    obtain ⟨_, _, _, c3⟩ := O3.lst.getGC n (by simp; have := Hhl.out; omega)
    simp only [List.getElem_set_self] at c3
    have HO3 := hidP O3
    have Hk2 := hidP k2
    have Ht2 := hidP t2
    clear c2' c3' O3 k2 t2
    go_wp2_with fail
    refine (Qcw x3 xc3 xo S3 _ (by omega) (by omega) (by omega) _ ((H3.out.offp Hk1.out (fun y h h' => e2 y h' h)).offp Hk2.out (fun y h h' => e3 y h' h))).mono ?_
    rintro e w3 ⟨rfl, k3, t3⟩
    have O4 := HO3.out.turn Qar n (by rw [List.length_set]; have := Hhl.out; omega) (mG ⟨xg, x1, xc1, xm, x2, xc2, xb, x3, xc3, xo⟩ z) (by rw [List.getElem_set_self]; simp only [Cel.cs, Qan, mG]) (k3.mono i3) ⟨S1, S2, S3, i1, i2, i3, e1, e2, e3, (Ht1.out.offp Hk2.out e1).offp k3 e2, Ht2.out.offp k3 e3, t3⟩
    rw [List.set_set, ← Hsu.out] at O4
    have HO4 := hidP O4
    have Hk3 := hidP k3
    clear O4 k3 t3
    go_wp2
    have hz' := hz.out
    refine ⟨⟨n + 1, z + 1 + (xm.length : Int) + (xb.length : Int) + (xo.length : Int), by go_num, rfl, by omega, by omega, by omega, ?_, ?_, HO4.out⟩, by simp [intOf]; omega⟩
    . show _ = _; rw [Hsn.out, hz']; simp only [cG]; omega
    . exact (((hoff.out.set (.inl rfl) _ _).trans (Hk1.out.mono (fun x hx => .inr ⟨n, i1 x hx⟩))).trans (Hk2.out.mono (fun x hx => .inr ⟨n, i2 x hx⟩))).trans (Hk3.out.mono (fun x hx => .inr ⟨n, i3 x hx⟩))
  . obtain rfl : n = l.length := by omega
    go_wp2
    go_ret
    have e := hz.out
    rw [Qb6 cG l _ (Nat.le_refl _)] at e
    have hh := hown.out
    rw [Qev mG cG l k _ (Nat.le_refl _)] at hh
    subst e
    exact ⟨rfl, hoff.out, hh⟩
theorem Qhp {W : World} {a : Option Addr} {q : Nat} {z : Int} (h : At W a (Qae q z)) : q = 0 ∨ ∃ b o, a = some ⟨b, o, none⟩ /\ b < W.heap.size /\ In W b o (Qae q z) :=
 h.imp (fun e => by have := congrArg List.length e; rw [Qan] at this; simpa using this) id
theorem Qgb (A : Option Addr) (cap : Nat) (l : List GC) (k : Int) (hk : 1 <= k) (hk' : k <= 50000000) (hc : Qac cG l <= 50000000) (hl : l.length <= 1048576) (hs : ∀ x ∈ l, x.m.length <= 1048576 /\ x.b.length <= 1048576 /\ x.o.length <= 1048576) (w : World) (hA : At w A (marked mG cG l k)) (hE : EachG w (marked mG cG l k)) :
 Calls Tryz.prog 74 #[.slice A l.length cap, .int .i64 k] w fun e w' => e = .returned (.int .i64 (k + (Qac cG l : Int))) /\ Below w.heap.size w w' := by
 have HA := hidP hA
 have HE := hidP hE
 have Hs := hidP hs
 have Hc := hidP hc
 clear hA hE hs hc
 have HML := hidP (Qa8 mG cG l k)
 go_enter Tryz.func74, Tryz.ntmps74
 go_wp2
 go_loopw [1, 5] (fun kk i w' => ∃ (n : Nat) (z : Int), i = .int .i64 (n : Int) /\ kk = .int .i64 z /\ n <= l.length /\ 1 <= z /\ z <= 100000000 /\ Hid (z = k + (Qac cG (l.take n) : Int)) /\ Below w.heap.size w w') (fun _ i _ => l.length - (intOf i).toNat)
 case atStart => exact ⟨0, k, rfl, rfl, by omega, hk, by omega, by simp [Hid, Qac], Below.refl _ _⟩
 case round =>
  obtain ⟨n, z, rfl, rfl, hn, hz1, hz2, hz, hbl⟩ := hrel
  by_cases hlt : n < l.length
  . have hml := HML.out
    obtain ⟨b, o, rfl, hbs, hin⟩ : ∃ b o, A = some ⟨b, o, none⟩ /\ b < w.heap.size /\ In w b o (marked mG cG l k) := by
     rcases HA.out with h | h
     . rw [h] at hml; simp at hml; omega
     . exact h
    have hmn : n < (marked mG cG l k).length := by omega
    have hge := Qdf mG cG l n hlt k hmn
    rw [← hz.out] at hge
    obtain ⟨c0, c1, c2, c3⟩ := (hin.below hbs hbl).getGC n hmn
    have hat := (HE.out _ (List.getElem_mem hmn)).below hbl
    rw [hge] at c0 c1 c2 c3 hat
    have hit := Hs.out _ (List.getElem_mem hlt)
    have hcn : Qac cG (l.take n) + cG l[n] <= 50000000 := by rw [← Qas cG l n hlt]; exact Nat.le_trans (Qcl cG l (n + 1)) Hc.out
    have Hsn := hidP (Qas cG l n hlt)
    generalize hx : l[n] = x at c0 c1 c2 c3 hit hcn hat Hsn
    obtain ⟨xg, x1, xc1, xm, x2, xc2, xb, x3, xc3, xo⟩ := x
    simp only [mG, Qan] at c0 c1 c2 c3 hit
    simp only [mG, atG] at hat
    have Hat := hidP hat
    have Hcn := hidP hcn
    have hzc : z + 1 + xm.length + xb.length + xo.length <= 100000000 := by
     have h3 := hz.out; have h4 := Hcn.out; simp only [cG] at h4; omega
    have hb1 : b < wr.heap.size := Nat.lt_of_lt_of_le hbs hbl.size
    clear hml hge hx hcn hat
    have n1 : ¬ z + 1 + (xm.length : Int) < 0 := by omega
    have n2 : ¬ z + 1 + (xm.length : Int) + (xb.length : Int) < 0 := by omega
    have n3 : ¬ z + 1 + (xm.length : Int) + (xb.length : Int) + (xo.length : Int) < 0 := by omega
    go_wp2_with fail
    refine (Qb3 x1 xc1 xm.length (z + 1) (by omega) (by omega) (by omega) _ (Qhp Hat.out.1)).mono ?_
    rintro e w1 ⟨rfl, g1⟩
    obtain ⟨k1, m1⟩ := Qaj g1
    have q1 := Nat.lt_of_lt_of_le hb1 g1.size
    go_wp2_with fail
    refine (Qb3 x2 xc2 xb.length (z + 1 + (xm.length : Int)) (by omega) (by omega) (by omega) _ (Qhp (Hat.out.2.1.below g1))).mono ?_
    rintro e w2 ⟨rfl, g2⟩
    obtain ⟨k2, m2⟩ := Qaj g2
    have q2 := Nat.lt_of_lt_of_le q1 g2.size
    go_wp2_with fail
    refine (Qb3 x3 xc3 xo.length (z + 1 + (xm.length : Int) + (xb.length : Int)) (by omega) (by omega) (by omega) _ (Qhp ((Hat.out.2.2.below g1).below g2))).mono ?_
    rintro e w3 ⟨rfl, g3⟩
    go_wp2
    have hz' := hz.out
    refine ⟨⟨n + 1, z + 1 + (xm.length : Int) + (xb.length : Int) + (xo.length : Int), by go_num, rfl, by omega, by omega, by omega, ?_, via0 g3 (via0 g2 (via0 g1 hbl))⟩, by simp [intOf]; omega⟩
    show _ = _; rw [Hsn.out, hz']; simp only [cG]; omega
  . obtain rfl : n = l.length := by omega
    go_wp2
    go_ret
    have e := hz.out
    rw [Qb6 cG l _ (Nat.le_refl _)] at e
    subst e
    exact ⟨rfl, hbl⟩
def makP (w : World) (x : MC) (S : Nat -> Prop) : Prop := Sub w x.A x.ms S
theorem Qaz : Firm makP := fun w w' x S T h k hd => Sub.offp h k hd
theorem makP_each {S : Nat -> Prop} {w : World} {a : Option Addr} {l : List MC} (h : Own makP w a l S) : Each w l := h.each (fun x S hx => Sub.at hx)
def cM (x : MC) : Nat := 4 + x.ms.length * 2
def mM (x : MC) (z : Int) : MC := ⟨z, z + 1, z + 2, z + 3, x.A, x.cap, Qa6 x.ms.length (z + 4)⟩
theorem mark_marks (a : Option Addr) (cap : Nat) (l : List Mk) (S : Nat -> Prop) (k : Int) (hk : 1 <= k) (hk' : k <= 100000000) (hl : l.length <= 2000000) (w : World) (h : Sub w a l S) :
 Calls Tryz.prog 121 #[.slice a l.length cap, .int .i64 k] w fun e w' => e = .returned (.int .i64 (k + (l.length : Int) * 2)) /\ Offp S w w' /\ Sub w' a (Qa6 l.length k) S := by
 rcases h with rfl | ⟨b, o, rfl, hS, hb, hi, ht⟩
 . refine (Qiu a cap k w).mono ?_
   rintro e w' ⟨rfl, rfl⟩
   exact ⟨by simp, Offp.refl _ _, .inl rfl⟩
 . refine (Qka b o cap l.length k hk hk' hl w hb ht).mono ?_
   rintro e w' ⟨rfl, ko, hin, hth⟩
   exact ⟨rfl, (Offp.of_only ko).mono (fun x e => e ▸ hS), .inr ⟨b, o, rfl, hS, Nat.lt_of_lt_of_le hb ko.size, hin, by rw [Qbb]; exact hth⟩⟩
theorem Qf0 (b o cap : Nat) (l : List MC) (fp : Nat -> Nat -> Prop) (k : Int) (hk : 1 <= k) (hk' : k <= 50000000) (hc : Qac cM l <= 50000000) (hl : l.length <= 1048576) (hs : ∀ x ∈ l, x.ms.length <= 1048576) (w : World) (hO : OwnF makP w b o l fp) :
 Calls Tryz.prog 65 #[.slice (some ⟨b, o, none⟩) l.length cap, .int .i64 k] w fun e w' => e = .returned (.int .i64 (k + (Qac cM l : Int))) /\ Offp (fun x => x = b ∨ ∃ i, fp i x) w w' /\ OwnF makP w' b o (marked mM cM l k) fp := by
 have HO := hidP hO
 have Hs := hidP hs
 have Hc := hidP hc
 clear hO hs hc
 go_enter Tryz.func65, Tryz.ntmps65
 go_wp2
 go_loopw [1, 5] (fun kk i w' => ∃ (n : Nat) (z : Int), i = .int .i64 (n : Int) /\ kk = .int .i64 z /\ n <= l.length /\ 1 <= z /\ z <= 100000000 /\ Hid (z = k + (Qac cM (l.take n) : Int)) /\ Hid (Offp (fun x => x = b ∨ ∃ i, fp i x) w w') /\ Hid (OwnF makP w' b o (half mM cM l k n) fp)) (fun _ i _ => l.length - (intOf i).toNat)
 case atStart => exact ⟨0, k, rfl, rfl, by omega, hk, by omega, by simp [Hid, Qac], Offp.refl _ _, by rw [Qdz]; exact HO.out⟩
 case round =>
  obtain ⟨n, z, rfl, rfl, hn, hz1, hz2, hz, hoff, hown⟩ := hrel
  by_cases hlt : n < l.length
  . have hhl := Qc3 mM cM l k n
    have hge := Qeu mM cM l k n hlt (by omega)
    have hit := Hs.out _ (List.getElem_mem hlt)
    obtain ⟨c0, c1, c2, c3, c4⟩ := hown.out.lst.getMC n (by omega)
    have hth := hown.out.th
    rw [hhl] at hth
    obtain ⟨_, f0⟩ := Qaf (f := 0) hth hlt (by decide)
    obtain ⟨_, f1⟩ := Qaf (f := 1) hth hlt (by decide)
    obtain ⟨_, f2⟩ := Qaf (f := 2) hth hlt (by decide)
    obtain ⟨_, f3⟩ := Qaf (f := 3) hth hlt (by decide)
    simp only [Nat.add_zero, show Cel.k MC = 5 from rfl] at f0 f1 f2 f3
    rw [hge] at c0 c1 c2 c3 c4
    have hsu := Qd0 mM cM l k n hlt
    rw [← hz.out] at hsu
    have hcn : Qac cM (l.take n) + cM l[n] <= 50000000 := by rw [← Qas cM l n hlt]; exact Nat.le_trans (Qcl cM l (n + 1)) Hc.out
    have Hsn := hidP (Qas cM l n hlt)
    generalize hx : l[n] = x at c0 c1 c2 c3 c4 hit hsu hcn hge Hsn
    obtain ⟨xr, xw, xe, xl, xA, xc, xi⟩ := x
    simp only at c0 c1 c2 c3 c4 hit
    have O1 := hown.out.set1 Qaz n (by omega) ⟨z, xw, xe, xl, xA, xc, xi⟩ 0 (by decide) (.int .i64 z) (by rw [hge]; rfl) (fun W S h => by rw [hge] at h; exact h)
    have O2 := O1.set1 Qaz n (by simp; omega) ⟨z, z + 1, xe, xl, xA, xc, xi⟩ 1 (by decide) (.int .i64 (z + 1)) (by rw [List.getElem_set_self]; rfl) (fun W S h => by rw [List.getElem_set_self] at h; exact h)
    have O3 := O2.set1 Qaz n (by simp; omega) ⟨z, z + 1, z + 1 + 1, xl, xA, xc, xi⟩ 2 (by decide) (.int .i64 (z + 1 + 1)) (by rw [List.getElem_set_self]; rfl) (fun W S h => by rw [List.getElem_set_self] at h; exact h)
    have O4 := O3.set1 Qaz n (by simp; omega) ⟨z, z + 1, z + 1 + 1, z + 1 + 1 + 1, xA, xc, xi⟩ 3 (by decide) (.int .i64 (z + 1 + 1 + 1)) (by rw [List.getElem_set_self]; rfl) (fun W S h => by rw [List.getElem_set_self] at h; exact h)
    simp only [Nat.add_zero, show Cel.k MC = 5 from rfl, List.set_set] at O4
    have Hhl := hidP hhl
    have Hsu := hidP hsu
    have Hcn := hidP hcn
    have HO2 := hidP O4
    have hsub := O4.sub n (by simp; omega)
    rw [List.getElem_set_self] at hsub
    have Hsub := hidP hsub
    have hz' := hz.out
    have hzc : z + 4 <= 100000000 := by
     have h3 := Hcn.out; simp only [cM] at h3; omega
    clear hx hhl hsu hcn O1 O2 O3 O4 hsub hge hth hz'
    go_wp2_with fail
    refine (mark_marks xA xc xi (fp n) _ (by omega) (by omega) (by omega) _ Hsub.out).mono ?_
    rintro e w1 ⟨rfl, ko, hsb⟩
    have hlim : xi.length * 2 + 4 <= 50000000 := by have := Hcn.out; simp only [cM] at this; omega
    go_wp2
    have hz' := hz.out
    have e2 : z + 1 + 1 = z + 2 := by omega
    have e3 : z + 1 + 1 + 1 = z + 3 := by omega
    have e4 : z + 1 + 1 + 1 + 1 = z + 4 := by omega
    have hcs : Cel.cs (mM ⟨xr, xw, xe, xl, xA, xc, xi⟩ z) = Cel.cs (⟨z, z + 1, z + 1 + 1, z + 1 + 1 + 1, xA, xc, xi⟩ : MC) := by
     simp only [Cel.cs, mM, Qbb, e2, show z + 2 + 1 = z + 3 by omega]
    have hsb' : makP w1 (mM ⟨xr, xw, xe, xl, xA, xc, xi⟩ z) (fp n) := by
     rw [e4] at hsb
     exact hsb
    have O3 := HO2.out.turn Qaz n (by rw [List.length_set]; have := Hhl.out; omega) (mM ⟨xr, xw, xe, xl, xA, xc, xi⟩ z) (by rw [List.getElem_set_self]; exact hcs) ko hsb'
    rw [List.set_set, ← Hsu.out] at O3
    refine ⟨⟨n + 1, z + 1 + 1 + 1 + 1 + (xi.length : Int) * 2, by go_num, rfl, by omega, by omega, ?_, ?_, ?_, O3⟩, by simp [intOf]; omega⟩
    . have := Hcn.out; simp only [cM] at this; omega
    . show _ = _; rw [Hsn.out, hz']; simp only [cM]; omega
    . exact ((((hoff.out.set (.inl rfl) _ _).set (.inl rfl) _ _).set (.inl rfl) _ _).set (.inl rfl) _ _).trans (ko.mono (fun x hx => .inr ⟨n, hx⟩))
  . obtain rfl : n = l.length := by omega
    go_wp2
    go_ret
    have e := hz.out
    rw [Qb6 cM l _ (Nat.le_refl _)] at e
    have hh := hown.out
    rw [Qev mM cM l k _ (Nat.le_refl _)] at hh
    subst e
    exact ⟨rfl, hoff.out, hh⟩
theorem Qga (A : Option Addr) (cap : Nat) (l : List MC) (k : Int) (hk : 1 <= k) (hk' : k <= 50000000) (hc : Qac cM l <= 50000000) (hl : l.length <= 1048576) (hs : ∀ x ∈ l, x.ms.length <= 1048576) (w : World) (hA : At w A (marked mM cM l k)) (hE : Each w (marked mM cM l k)) :
 Calls Tryz.prog 73 #[.slice A l.length cap, .int .i64 k] w fun e w' => e = .returned (.int .i64 (k + (Qac cM l : Int))) /\ Below w.heap.size w w' := by
 have HA := hidP hA
 have HE := hidP hE
 have Hs := hidP hs
 have Hc := hidP hc
 clear hA hE hs hc
 have HML := hidP (Qa8 mM cM l k)
 go_enter Tryz.func73, Tryz.ntmps73
 go_wp2
 go_loopw [1, 5] (fun kk i w' => ∃ (n : Nat) (z : Int), i = .int .i64 (n : Int) /\ kk = .int .i64 z /\ n <= l.length /\ 1 <= z /\ z <= 100000000 /\ Hid (z = k + (Qac cM (l.take n) : Int)) /\ Below w.heap.size w w') (fun _ i _ => l.length - (intOf i).toNat)
 case atStart => exact ⟨0, k, rfl, rfl, by omega, hk, by omega, by simp [Hid, Qac], Below.refl _ _⟩
 case round =>
  obtain ⟨n, z, rfl, rfl, hn, hz1, hz2, hz, hbl⟩ := hrel
  by_cases hlt : n < l.length
  . have hml := HML.out
    obtain ⟨b, o, rfl, hbs, hin⟩ : ∃ b o, A = some ⟨b, o, none⟩ /\ b < w.heap.size /\ In w b o (marked mM cM l k) := by
     rcases HA.out with h | h
     . rw [h] at hml; simp at hml; omega
     . exact h
    have hmn : n < (marked mM cM l k).length := by omega
    have hge := Qdf mM cM l n hlt k hmn
    rw [← hz.out] at hge
    obtain ⟨c0, c1, c2, c3, c4⟩ := (hin.below hbs hbl).getMC n hmn
    have hat := (HE.out _ (List.getElem_mem hmn)).below hbl
    rw [hge] at c0 c1 c2 c3 c4 hat
    have hit := Hs.out _ (List.getElem_mem hlt)
    have hcn : Qac cM (l.take n) + cM l[n] <= 50000000 := by rw [← Qas cM l n hlt]; exact Nat.le_trans (Qcl cM l (n + 1)) Hc.out
    have Hsn := hidP (Qas cM l n hlt)
    generalize hx : l[n] = x at c0 c1 c2 c3 c4 hit hcn hat Hsn
    obtain ⟨xr, xw, xe, xl, xA, xc, xi⟩ := x
    simp only [mM, Qbb] at c0 c1 c2 c3 c4 hit hat
    have e3 : z + 3 = z + 1 + 1 + 1 := by omega
    have e2 : z + 2 = z + 1 + 1 := by omega
    rw [e3] at c3
    rw [e2] at c2
    clear e2 e3
    have HAt : Hid (xi.length = 0 ∨ ∃ b o, xA = some ⟨b, o, none⟩ /\ b < wr.heap.size /\ In wr b o (Qa6 xi.length (z + 1 + 1 + 1 + 1))) := by
     have e2 : z + 1 + 1 + 1 + 1 = z + 4 := by omega
     rw [e2]
     rcases hat with h | h
     . exact .inl (by have := congrArg List.length h; simpa [Qbb] using this)
     . exact .inr h
    have Hcn := hidP hcn
    have hzc : z + 4 <= 100000000 := by
     have h3 := hz.out; have h4 := Hcn.out; simp only [cM] at h4; omega
    have hlim : xi.length * 2 + 4 <= 50000000 := by have := Hcn.out; simp only [cM] at this; omega
    clear hml hge hx hcn hat
    have hneg : ¬ z + 1 + 1 + 1 + 1 + (xi.length : Int) * 2 < 0 := by omega
    go_wp2_with fail
    refine (Qkj xA xc xi.length (z + 1 + 1 + 1 + 1) (by omega) (by omega) (by omega) _ HAt.out).mono ?_
    rintro e w1 ⟨rfl, rfl⟩
    go_wp2
    have hz' := hz.out
    refine ⟨⟨n + 1, z + 1 + 1 + 1 + 1 + (xi.length : Int) * 2, by go_num, rfl, by omega, by omega, ?_, ?_, hbl⟩, by simp [intOf]; omega⟩
    . have := Hcn.out; simp only [cM] at this; omega
    . show _ = _; rw [Hsn.out, hz']; simp only [cM]; omega
  . obtain rfl : n = l.length := by omega
    go_wp2
    go_ret
    have e := hz.out
    rw [Qb6 cM l _ (Nat.le_refl _)] at e
    subst e
    exact ⟨rfl, hbl⟩
theorem At.hid {α : Type} [Cel α] {w : World} {A : Option Addr} {l : List α} (hA : At w A l) : Hid (∀ W : World, Below w.heap.size w W -> At W A l) := fun W hW => hA.below hW
theorem eqLog_same (base bt : Int) (A A' : Option Addr) (cap cap' : Nat) (l : List En) (hl : l.length <= 9223372036854775807) (w : World) (hA : At w A l) (hA' : At w A' l) :
 Calls Tryz.prog 56 #[.agg #[.int .i64 base, .int .i64 bt, .slice A l.length cap], .agg #[.int .i64 base, .int .i64 bt, .slice A' l.length cap']] w fun e w' => e = .returned (.bool true) /\ Below w.heap.size w w' := by
 have HA := hA.hid
 have HA' := hA'.hid
 clear hA hA'
 go_enter Tryz.func56, Tryz.ntmps56
 go_wp2_with (go_at_call 115; refine (Qd4 A A' cap cap' l hl _ (HA.out _ ?_) (HA'.out _ ?_)).mono ?_; (repeat (first | exact Below.refl _ _ | assumption | refine via0 (by assumption) ?_ | refine Below.drew ?_ | refine Qaa ?_ _)); (repeat (first | exact Below.refl _ _ | assumption | refine via0 (by assumption) ?_ | refine Below.drew ?_ | refine Qaa ?_ _)); rintro e w1 ⟨rfl, g1⟩)
 go_ret
 refine ⟨rfl, ?_⟩
 repeat (first | exact Below.refl _ _ | assumption | refine via0 (by assumption) ?_ | refine Below.drew ?_ | refine Qaa ?_ _)
theorem Qeg (a : Option Addr) (cap : Nat) (k : Int) (w : World) :
 Calls Tryz.prog 69 #[.slice a 0 cap, .int .i64 k] w fun e w' => e = .returned (.int .i64 k) /\ w' = w := by
 go_enter Tryz.func69, Tryz.ntmps69
 go_wp2
 go_loopw [1, 5] (fun kk i w' => kk = .int .i64 k /\ i = .int .i64 0 /\ w' = w) (fun _ _ _ => 0)
 case atStart => exact ⟨rfl, rfl, rfl⟩
 case round =>
  obtain ⟨rfl, rfl, rfl⟩ := hrel
  go_wp2
  go_ret
  exact ⟨rfl, rfl⟩
theorem markE_any (a : Option Addr) (cap : Nat) (l : List En) (hl : l.length <= 3000000) (k : Int) (hk : 1 <= k) (hk' : k <= 100000000) (F : List Nat) (w : World) (hs : Sl w a l F) :
 Calls Tryz.prog 69 #[.slice a l.length cap, .int .i64 k] w fun e w' => e = .returned (.int .i64 (k + (l.length : Int) * 9)) /\ Off F w w' /\ Sl w' a (Qal l.length k) F := by
 rcases hs with ⟨rfl, rfl⟩ | ⟨b, o, rfl, rfl, hb, hi, ht⟩
 . refine (Qeg a cap k w).mono ?_
   rintro e w' ⟨rfl, rfl⟩
   exact ⟨by simp, Off.refl _ _, .inl ⟨rfl, rfl⟩⟩
 . refine (Qdk b o cap l.length k hk hk' hl w hb ht).mono ?_
   rintro e w' ⟨rfl, ho, hi', ht'⟩
   exact ⟨rfl, Off.of_only ho, .inr ⟨b, o, rfl, rfl, Nat.lt_of_lt_of_le hb ho.size, hi', by rw [Qax]; exact ht'⟩⟩
theorem heldE_any (a : Option Addr) (cap n : Nat) (hl : n <= 3000000) (k : Int) (hk : 1 <= k) (hk' : k <= 100000000) (F : List Nat) (w : World) (hs : Sl w a (Qal n k) F) :
 Calls Tryz.prog 77 #[.slice a n cap, .int .i64 k] w fun e w' => e = .returned (.int .i64 (k + (n : Int) * 9)) /\ Below w.heap.size w w' := by
 refine Qdo a cap n k hk hk' hl w ?_
 rcases hs with ⟨h, _⟩ | ⟨b, o, rfl, _, hb, hi, _⟩
 . left
   have := congrArg List.length h
   rwa [Qax] at this
 . exact .inr ⟨b, o, rfl, hb, hi⟩
theorem Qkb (base bt : Int) (a : Option Addr) (cap : Nat) (l : List En) (hl : l.length <= 3000000) (k : Int) (hk : 1 <= k) (hk' : k <= 100000000) (F : List Nat) (w : World) (hs : Sl w a l F) :
 Calls Tryz.prog 63 #[.agg #[.int .i64 base, .int .i64 bt, .slice a l.length cap], .int .i64 k] w fun e w' => e = .returned (.int .i64 (k + (l.length : Int) * 9)) /\ Off F w w' /\ Sl w' a (Qal l.length k) F := by
 have HC : Hid (∀ ob : Obj, Calls Tryz.prog 69 #[.slice a l.length cap, .int .i64 k] (w.alloc ob) fun e w' => e = .returned (.int .i64 (k + (l.length : Int) * 9)) /\ Off F (w.alloc ob) w' /\ Sl w' a (Qal l.length k) F) := fun ob => markE_any a cap l hl k hk hk' F _ (hs.below (Qaa (Below.refl _ _) ob))
 clear hs
 generalize hz : k + (l.length : Int) * 9 = z at HC ⊢
 clear hz
 go_enter Tryz.func63, Tryz.ntmps63
 go_wp2_with fail
 refine (HC.out _).mono ?_
 rintro e w1 ⟨rfl, o1, s1⟩
 have O1 := hidP o1
 have S1 := hidP s1
 clear o1 s1
 go_wp2
 go_ret
 exact ⟨rfl, by simpa using (Off.of_below (Qaa (Below.refl _ _) _)).trans O1.out, S1.out⟩
theorem Qkk (base bt : Int) (a : Option Addr) (cap n : Nat) (hl : n <= 3000000) (k : Int) (hk : 1 <= k) (hk' : k <= 100000000) (F : List Nat) (w : World) (hs : Sl w a (Qal n k) F) :
 Calls Tryz.prog 71 #[.agg #[.int .i64 base, .int .i64 bt, .slice a n cap], .int .i64 k] w fun e w' => e = .returned (.int .i64 (k + (n : Int) * 9)) /\ Below w.heap.size w w' := by
 have HC : Hid (∀ ob : Obj, Calls Tryz.prog 77 #[.slice a n cap, .int .i64 k] (w.alloc ob) fun e w' => e = .returned (.int .i64 (k + (n : Int) * 9)) /\ Below (w.alloc ob).heap.size (w.alloc ob) w') := fun ob => heldE_any a cap n hl k hk hk' F _ (hs.below (Qaa (Below.refl _ _) ob))
 clear hs
 have hp : ¬ k + (n : Int) * 9 < 0 := by omega
 generalize hz : k + (n : Int) * 9 = z at HC hp ⊢
 clear hz
 go_enter Tryz.func71, Tryz.ntmps71
 go_wp2_with fail
 refine (HC.out _).mono ?_
 rintro e w1 ⟨rfl, g1⟩
 go_wp2
 go_ret
 exact ⟨rfl, by repeat (first | exact Below.refl _ _ | assumption | refine via0 (by assumption) ?_ | refine Below.drew ?_ | refine Qaa ?_ _)⟩
end Go.Proofs.YtglegpkcikacoaaGreatDoor.Gen
