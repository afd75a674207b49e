/-
  Items in memory: a list of items lies in a block, five cells an item; a slice value that holds a list of items. No condition.
-/
import Derived.WalkSpells
import Derived.Lib.ItoaNum
import Derived.Test.YtkmkldjipihceaaGreatAns
import Derived.Test.YtkmkldjipihceaaGreatMakers
set_option linter.unusedVariables false
set_option linter.unusedSimpArgs false
set_option maxRecDepth 100000
set_option maxHeartbeats 8000000
set_option maxRecDepth 100000
set_option maxHeartbeats 8000000
namespace Go.Proofs.YtkmkldjipihceaaGreat.Items
open ChangeShapes WideShapes ChangeAt RowKit Base
structure It where
  off : Int
  key : ByteArray
  text : ByteArray
  who : Int
  time : Int
def It.cs (x : It) : List Value := [.int .i64 x.off, .string x.key, .string x.text, .int .i64 x.who, .int .i64 x.time]
def flat (l : List It) : List Value := l.flatMap It.cs
theorem It.cs_length (x : It) : x.cs.length = 5 := rfl
theorem Qb8 (l : List It) : (flat l).length = l.length * 5 := by
 induction l with
 | nil => rfl
 | cons a l ih => simp only [flat, List.flatMap_cons, List.length_append, List.length_cons] at ih ⊢; rw [ih, It.cs_length]; omega
theorem Qco (l m : List It) : flat (l ++ m) = flat l ++ flat m := by simp [flat]
theorem Qd5 (x : It) : flat [x] = x.cs := by simp [flat]
theorem Qek (x : It) (l : List It) : flat (x :: l) = x.cs ++ flat l := by simp [flat]
theorem Qd6 (l : List It) : ∀ (i : Nat) (h : i < l.length) (f : Nat), f < 5 -> (flat l)[i * 5 + f]? = (l[i].cs)[f]? := by
 induction l with
 | nil => intro i h; simp at h
 | cons a l ih =>
  intro i h f hf
  rw [Qek]
  cases i with
  | zero => rw [List.getElem?_append_left (by rw [It.cs_length]; omega)]; simp
  | succ i =>
   rw [List.getElem?_append_right (by rw [It.cs_length]; omega), It.cs_length]
   have e : (i + 1) * 5 + f - 5 = i * 5 + f := by omega
   rw [e, ih i (by simpa using h) f hf]; simp
def In (w : World) (b o : Nat) (l : List It) : Prop := w.rangeAt b o (flat l)
theorem In.get {w : World} {b o : Nat} {l : List It} (h : In w b o l) (i : Nat) (hi : i < l.length) :
 w.cell? ⟨b, o + i * 5, none⟩ = some (.int .i64 l[i].off) /\ w.cell? ⟨b, o + i * 5 + 1, none⟩ = some (.string l[i].key) /\ w.cell? ⟨b, o + i * 5 + 2, none⟩ = some (.string l[i].text) /\
 w.cell? ⟨b, o + i * 5 + 3, none⟩ = some (.int .i64 l[i].who) /\ w.cell? ⟨b, o + i * 5 + 4, none⟩ = some (.int .i64 l[i].time) := by
 have g : ∀ f v, f < 5 -> (l[i].cs)[f]? = some v -> w.cell? ⟨b, o + (i * 5 + f), none⟩ = some v := fun f v hf hv => h (i * 5 + f) v (by rw [Qd6 l i hi f hf]; exact hv)
 exact ⟨g 0 _ (by omega) rfl, g 1 _ (by omega) rfl, g 2 _ (by omega) rfl, g 3 _ (by omega) rfl, g 4 _ (by omega) rfl⟩
theorem In.below {w w' : World} {b o : Nat} {l : List It} (h : In w b o l) (hb : b < w.heap.size) (hw : Below w.heap.size w w') : In w' b o l :=
 fun j v hv => (hw.cell (p := ⟨b, o + j, none⟩) hb).trans (h j v hv)
theorem via0 {a b c : World} (k : Below b.heap.size b c) (h : Below a.heap.size a b) : Below a.heap.size a c := h.trans (k.mono h.size)
theorem Qab {a b : World} (h : Below a.heap.size a b) (o : Obj) : Below a.heap.size a (b.alloc o) := h.alloc h.size o
def szI (k t : Nat) (left : Int) : Int := if left < k then -1 else if left < k + t then -1 else left - k - t
theorem szItem_any (off who time : Int) (k t : ByteArray) (left : Int) (h0 : 0 <= left) (h1 : left <= 1048576) (hk : k.size <= 9223372036854775807) (ht : t.size <= 9223372036854775807) (w : World) :
 Calls Tryz.prog 175 #[.agg (Qbf off k t who time), .int .i64 left] w fun e w' => e = .returned (.int .i64 (szI k.size t.size left)) /\ Below w.heap.size w w' := by
 by_cases h1 : left < k.size
 focus
  have g1 : left - (k.size : Int) < 0 := by omega
  have e1 : szI k.size t.size left = -1 := by simp [szI, h1]
 rotate_left
 focus
  have g1 : ¬ left - (k.size : Int) < 0 := by omega
  by_cases h2 : left < k.size + t.size
  focus
   have g2 : left - (k.size : Int) - (t.size : Int) < 0 := by omega
   have e1 : szI k.size t.size left = -1 := by simp [szI, h1, h2]
  rotate_left
  focus
   have g2 : ¬ left - (k.size : Int) - (t.size : Int) < 0 := by omega
   have e1 : szI k.size t.size left = left - k.size - t.size := by simp [szI, h1, h2]
 all_goals
  rw [e1]
  go_enter Tryz.func175, Tryz.ntmps175
  go_wp2
  go_ret
  exact ⟨rfl, by repeat (first | exact Below.refl _ _ | refine via0 (by assumption) ?_ | refine Below.drew ?_ | refine Qab ?_ _)⟩
theorem szI_ge {k t : Nat} {left : Int} (h0 : 0 <= left) (h : 0 <= szI k t left) : szI k t left = left - k - t := by
 unfold szI at h ⊢
 split at h
 . omega
 . split at h
   . omega
   . rw [if_neg (by assumption), if_neg (by assumption)]
def tot : List It -> Nat
  | [] => 0
  | x :: l => x.key.size + x.text.size + tot l
theorem tot_append (l m : List It) : tot (l ++ m) = tot l + tot m := by
 induction l with
 | nil => simp [tot]
 | cons x l ih => simp only [List.cons_append, tot, ih]; omega
theorem tot_take {l : List It} {n : Nat} (h : n < l.length) : tot (l.take (n + 1)) = tot (l.take n) + (l[n].key.size + l[n].text.size) := by
 rw [List.take_succ_eq_append_getElem h, tot_append]; simp [tot]
theorem szItemS_at (A : Option Addr) (cap : Nat) (l : List It) (hl : l.length <= 9223372036854775807) (hs : ∀ x ∈ l, x.key.size <= 9223372036854775807 /\ x.text.size <= 9223372036854775807) (left : Int) (hl0 : 0 <= left) (hl1 : left <= 1048576) (w : World)
 (hA : l = [] ∨ ∃ b o, A = some ⟨b, o, none⟩ /\ b < w.heap.size /\ In w b o l) :
 Calls Tryz.prog 154 #[.slice A l.length cap, .int .i64 left] w fun e w' => ∃ r : Int, e = .returned (.int .i64 r) /\ (r = -1 ∨ (0 <= r /\ r = left - l.length - tot l)) /\ Below w.heap.size w w' := by
 by_cases hb : left - (l.length : Int) < 0
 . go_enter Tryz.func154, Tryz.ntmps154
   go_wp2
   go_ret
   exact ⟨-1, rfl, .inl rfl, Below.refl _ _⟩
 . have HA : Hid (l = [] ∨ ∃ b o, A = some ⟨b, o, none⟩ /\ b < w.heap.size /\ In w b o l) := hA
   clear hA
   go_enter Tryz.func154, Tryz.ntmps154
   go_wp2
   go_loopw [1, 5] (fun le i w' => ∃ (n : Nat) (r : Int), i = .int .i64 (n : Int) /\ le = .int .i64 r /\ n <= l.length /\ 0 <= r /\ r <= 1048576 /\ Hid (r = left - l.length - tot (l.take n)) /\ Below w.heap.size w w') (fun _ i _ => l.length - (intOf i).toNat)
   case atStart => exact ⟨0, _, rfl, rfl, by omega, by omega, by omega, by simp [tot, Hid], Below.refl _ _⟩
   case round =>
    obtain ⟨n, r, rfl, rfl, hn, h0, h1, hr, hbl⟩ := hrel
    by_cases hlt : n < l.length
    . obtain ⟨b, o, rfl, hbs, hin⟩ : ∃ b o, A = some ⟨b, o, none⟩ /\ b < w.heap.size /\ In w b o l := by
       rcases HA.out with h | h
       . subst h; simp at hlt
       . exact h
      obtain ⟨hc0, hc1, hc2, hc3, hc4⟩ := (hin.below hbs hbl).get n hlt
      obtain ⟨hk, ht⟩ := hs l[n] (List.getElem_mem hlt)
      have HT := tot_take hlt
      go_wp2_with (go_at_call 175; refine (szItem_any _ _ _ _ _ _ h0 h1 hk ht _).mono ?_; rintro e w1 ⟨rfl, g1⟩)
      . go_ret
        exact ⟨-1, rfl, .inl rfl, via0 g1 hbl⟩
      . have hge : 0 <= szI l[n].key.size l[n].text.size r := by assumption
        have he := szI_ge h0 hge
        refine ⟨⟨n + 1, szI l[n].key.size l[n].text.size r, by go_num, rfl, by omega, hge, by omega, ?_, via0 g1 hbl⟩, by simp [intOf]; omega⟩
        have hr' := hr.out
        show szI l[n].key.size l[n].text.size r = left - l.length - tot (l.take (n + 1))
        rw [HT, he, hr']
        omega
    . have e : l.take n = l := List.take_of_length_le (by omega)
      go_wp2
      go_ret
      exact ⟨r, rfl, .inr ⟨h0, by have := hr.out; rw [e] at this; exact this⟩, hbl⟩
theorem szRow_at (start next : Int) (A : Option Addr) (cap : Nat) (l : List It) (hl : l.length <= 9223372036854775807) (hs : ∀ x ∈ l, x.key.size <= 9223372036854775807 /\ x.text.size <= 9223372036854775807) (left : Int) (hl0 : 0 <= left) (hl1 : left <= 1048576) (w : World)
 (hA : l = [] ∨ ∃ b o, A = some ⟨b, o, none⟩ /\ b < w.heap.size /\ In w b o l) :
 Calls Tryz.prog 137 #[.agg (Qap start next A l.length cap), .int .i64 left] w fun e w' => ∃ r : Int, e = .returned (.int .i64 r) /\ (r < 0 ∨ (0 <= r /\ r = left - l.length - tot l)) /\ Below w.heap.size w w' := by
 have hA' : ∀ ob : Obj, l = [] ∨ ∃ b o, A = some ⟨b, o, none⟩ /\ b < (w.alloc ob).heap.size /\ In (w.alloc ob) b o l := fun ob => by
  rcases hA with h | ⟨b, o, h1, h2, h3⟩
  . exact .inl h
  . exact .inr ⟨b, o, h1, by simp; omega, h3.below h2 (Qab (Below.refl _ _) ob)⟩
 have HA : Hid (∀ ob : Obj, l = [] ∨ ∃ b o, A = some ⟨b, o, none⟩ /\ b < (w.alloc ob).heap.size /\ In (w.alloc ob) b o l) := hA'
 clear hA hA'
 go_enter Tryz.func137, Tryz.ntmps137
 go_wp2_with (go_at_call 154; refine (szItemS_at A cap l hl hs left hl0 hl1 _ (HA.out _)).mono ?_; rintro e w1 ⟨r, rfl, hr, g1⟩; have HR : Hid (r = -1 ∨ (0 <= r /\ r = left - l.length - tot l)) := hr; clear hr)
 . go_ret
   refine ⟨-1, rfl, .inl (by omega), ?_⟩
   repeat (first | exact Below.refl _ _ | refine via0 (by assumption) ?_ | refine Below.drew ?_ | refine Qab ?_ _)
 . go_ret
   refine ⟨r, rfl, ?_, ?_⟩
   . rcases HR.out with h | h
     . omega
     . exact .inr h
   . repeat (first | exact Below.refl _ _ | refine via0 (by assumption) ?_ | refine Below.drew ?_ | refine Qab ?_ _)
def markT (k : Nat) : ByteArray := ⟨(109 :: Lib.decDigits k).toArray⟩
def markZ (z : Int) : ByteArray := markT z.toNat
end Go.Proofs.YtkmkldjipihceaaGreat.Items
namespace Go.Proofs.YtkmkldjipihceaaGreat.Gen
open ChangeShapes WideShapes ChangeAt RowKit Joins Deep Base
structure An where
  code : Int
  n : Int
  key : ByteArray
  text : ByteArray
instance : Inhabited An := ⟨⟨0, 0, ⟨#[]⟩, ⟨#[]⟩⟩⟩
instance : Cel An where
  k := 4
  cs x := [.int .i64 x.code, .int .i64 x.n, .string x.key, .string x.text]
  len _ := rfl
  one x u hu := by simp at hu; rcases hu with rfl | rfl | rfl | rfl<;>rfl
def An.right (x : An) : Prop := I64 x.code /\ I64 x.n /\ x.key.size <= 9223372036854775807 /\ x.text.size <= 9223372036854775807
theorem In.getAn {w : World} {b o : Nat} {l : List An} (h : In w b o l) (i : Nat) (hi : i < l.length) :
 w.cell? ⟨b, o + i * 4, none⟩ = some (.int .i64 l[i].code) /\ w.cell? ⟨b, o + i * 4 + 1, none⟩ = some (.int .i64 l[i].n) /\ w.cell? ⟨b, o + i * 4 + 2, none⟩ = some (.string l[i].key) /\ w.cell? ⟨b, o + i * 4 + 3, none⟩ = some (.string l[i].text) :=
 ⟨h.cell i hi (f := 0) rfl, h.cell i hi (f := 1) rfl, h.cell i hi (f := 2) rfl, h.cell i hi (f := 3) rfl⟩
theorem infoAn : (Tryz.prog.info? 119).map (fun i => (i.zero, i.size, i.bytes)) = some (some (.agg l0IITT), 4, 48) := by kernel_rfl
def szAn (x : An) : Nat := x.key.size + x.text.size
theorem Qfs (A : Option Addr) (cap : Nat) (l : List An) (hl : l.length <= 9223372036854775807) (hr : ∀ x ∈ l, x.key.size <= 9223372036854775807 /\ x.text.size <= 9223372036854775807) (left : Int) (h0 : 0 <= left) (h1 : left <= 1048576) (w : World) (hA : At w A l) :
 Calls Tryz.prog 111 #[.slice A l.length cap, .int .i64 left] w fun e w' => (∃ r : Int, e = .returned (.int .i64 r) /\ (r < 0 ∨ (0 <= r /\ r = left - (l.length : Int) - (Qat szAn l : Int)))) /\ Below w.heap.size w w' := by
 have HA := hidP hA
 have Hr := hidP hr
 clear hA hr
 by_cases h : left < (l.length : Int)
 . have g : left - (l.length : Int) < 0 := by omega
   go_enter Tryz.func111, Tryz.ntmps111
   go_wp2
   go_ret
   exact ⟨⟨-1, rfl, .inl (by omega)⟩, Below.refl _ _⟩
 . have g : ¬ left - (l.length : Int) < 0 := by omega
   go_enter Tryz.func111, Tryz.ntmps111
   go_wp2
   go_loopw [1, 5] (fun q i w' => ∃ (n : Nat) (z : Int), i = .int .i64 (n : Int) /\ q = .int .i64 z /\ n <= l.length /\ 0 <= z /\ z <= 1048576 /\ Hid (z = left - (l.length : Int) - (Qat szAn (l.take n) : Int)) /\ Below w.heap.size w w') (fun _ i _ => l.length - (intOf i).toNat)
   case atStart => exact ⟨0, _, rfl, rfl, by omega, by omega, by omega, by simp [Hid, Qat], Below.refl _ _⟩
   case round =>
    obtain ⟨n, z, rfl, rfl, hn, hz0, hz1, hz, hbl⟩ := hrel
    by_cases hlt : n < l.length
    . obtain ⟨b, o, rfl, hbs, hIn⟩ : ∃ b o, A = some ⟨b, o, none⟩ /\ b < w.heap.size /\ In w b o l := by
       rcases HA.out with h | h
       . subst h; simp at hlt
       . exact h
      obtain ⟨c0, c1, c2, c3⟩ := (hIn.below hbs hbl).getAn n hlt
      have hms := Hr.out _ (List.getElem_mem hlt)
      have hsn := hidP (Qbl szAn l n hlt)
      go_wp2_with fail
      refine (Qdy _ _ _ _ hms.1 hms.2 z hz0 hz1 _).mono ?_
      rintro e w1 ⟨⟨r, rfl, hr⟩, g1⟩
      rcases hr with rfl | ⟨hr0, hr1⟩
      . go_wp2
        go_ret
        exact ⟨⟨-1, rfl, .inl (by omega)⟩, via0 g1 hbl⟩
      . have hp : ¬ r < 0 := by omega
        have HR1 := hidP hr1
        clear hr1
        go_wp2
        have hz' := hz.out
        have hsn' := hsn.out
        have hr' := HR1.out
        exact ⟨⟨n + 1, r, by go_num, rfl, by omega, by omega, by omega, by show _ = _; rw [hsn', hr', hz']; simp only [szAn]; omega, via0 g1 hbl⟩, by simp [intOf]; omega⟩
    . have e : l.take n = l := List.take_of_length_le (by omega)
      go_wp2
      go_ret
      have hz' := hz.out
      rw [e] at hz'
      exact ⟨⟨z, rfl, .inr ⟨hz0, hz'⟩⟩, hbl⟩
theorem Qfr (A : Option Addr) (cap : Nat) (l : List An) (hl : l.length <= 1048576) (w : World) (hA : At w A l) :
 Calls Tryz.prog 122 #[.slice A l.length cap] w fun e w' => e = .returned (.slice (some ⟨w.heap.size, 0, none⟩) l.length l.length) /\ Below w.heap.size w w' /\ w.heap.size < w'.heap.size /\ In w' w.heap.size 0 l /\ w'.there w.heap.size 0 (l.length * 4) := by
 have HA := hidP hA
 clear hA
 have hmk := Qbg (P := Tryz.prog) Tryz.underlying57 infoAn (by omega) l.length hl
 go_enter Tryz.func122, Tryz.ntmps122
 go_wp2
 go_loopw [4] (fun i w' => ∃ (n : Nat), i = .int .i64 (n : Int) /\ n <= l.length /\ Below w.heap.size w w' /\ w.heap.size < w'.heap.size /\ Hid (In w' w.heap.size 0 (l.take n)) /\ Hid (w'.there w.heap.size 0 (l.length * 4))) (fun i _ => l.length - (intOf i).toNat)
 case atStart => exact ⟨0, rfl, by omega, by repeat (first | exact Below.refl _ _ | assumption | refine via0 (by assumption) ?_ | refine Below.drew ?_ | refine Qab ?_ _), by simp, In.nil _ _ _, Qa0 w _ _ _ _⟩
 case round =>
  obtain ⟨n, rfl, hn, hbl, hsz, hin, hth⟩ := hrel
  by_cases hlt : n < l.length
  . obtain ⟨b, o, rfl, hbs, hIn⟩ : ∃ b o, A = some ⟨b, o, none⟩ /\ b < w.heap.size /\ In w b o l := by
     rcases HA.out with h | h
     . subst h; simp at hlt
     . exact h
    obtain ⟨c0, c1, c2, c3⟩ := (hIn.below hbs hbl).getAn n hlt
    obtain ⟨⟨v0, d0⟩, f0⟩ := Qah (f := 0) hth.out hlt (by omega)
    obtain ⟨⟨v1, d1⟩, f1⟩ := Qah (f := 1) hth.out hlt (by omega)
    obtain ⟨⟨v2, d2⟩, f2⟩ := Qah (f := 2) hth.out hlt (by omega)
    obtain ⟨⟨v3, d3⟩, f3⟩ := Qah (f := 3) hth.out hlt (by omega)
    simp only [Nat.zero_add, Nat.add_zero] at d0 f0 d1 f1 d2 f2 d3 f3
    go_wp2_with (go_at_call 88; refine (Qdw _ _ _ _ _).mono ?_; rintro e w1 ⟨rfl, g1⟩; obtain ⟨k1, m1⟩ := Qax g1; have s1 := g1.size)
    have hst := Qcb (hin.out.below hsz g1) (Qaz hth.out hsz g1) hlt
    refine ⟨⟨n + 1, by go_num, by omega, ?_, by simp; omega, hst.1, hst.2⟩, by simp [intOf]; omega⟩
    exact ((((via0 g1 hbl).setCell (Nat.le_refl _) _).setCell (Nat.le_refl _) _).setCell (Nat.le_refl _) _).setCell (Nat.le_refl _) _
  . have e : l.take n = l := List.take_of_length_le (by omega)
    go_wp2
    go_ret
    exact ⟨rfl, hbl, hsz, by have := hin.out; rwa [e] at this, hth.out⟩
theorem Qdm (code n : Int) (k t : ByteArray) (w : World) :
 Calls Tryz.prog 105 #[.agg (Qcr code n k t), .agg (Qcr code n k t)] w fun e w' => e = .returned (.bool true) /\ Below w.heap.size w w' := by
 go_enter Tryz.func105, Tryz.ntmps105
 go_wp2
 go_ret
 exact ⟨rfl, by repeat (first | exact Below.refl _ _ | assumption | refine via0 (by assumption) ?_ | refine Below.drew ?_ | refine Qab ?_ _)⟩
theorem Qe4 (A A' : Option Addr) (cap cap' : Nat) (l : List An) (hl : l.length <= 9223372036854775807) (w : World) (hA : At w A l) (hA' : At w A' l) :
 Calls Tryz.prog 134 #[.slice A l.length cap, .slice A' l.length cap'] w fun e w' => e = .returned (.bool true) /\ Below w.heap.size w w' := by
 have HA := hidP hA
 have HA' := hidP hA'
 clear hA hA'
 go_enter Tryz.func134, Tryz.ntmps134
 go_wp2
 go_loopw [5] (fun i w' => ∃ (n : Nat), i = .int .i64 (n : Int) /\ n <= l.length /\ Below w.heap.size w w') (fun i _ => l.length - (intOf i).toNat)
 case atStart => exact ⟨0, rfl, by omega, Below.refl _ _⟩
 case round =>
  obtain ⟨n, rfl, hn, hbl⟩ := hrel
  by_cases hlt : n < l.length
  . obtain ⟨b, o, rfl, hbs, hin⟩ : ∃ b o, A = some ⟨b, o, none⟩ /\ b < w.heap.size /\ In w b o l := by
     rcases HA.out with h | h
     . subst h; simp at hlt
     . exact h
    obtain ⟨b', o', rfl, hbs', hin'⟩ : ∃ b o, A' = some ⟨b, o, none⟩ /\ b < w.heap.size /\ In w b o l := by
     rcases HA'.out with h | h
     . subst h; simp at hlt
     . exact h
    obtain ⟨c0, c1, c2, c3⟩ := (hin.below hbs hbl).getAn n hlt
    obtain ⟨d0, d1, d2, d3⟩ := (hin'.below hbs' hbl).getAn n hlt
    have hb1 : b < wr.heap.size := Nat.lt_of_lt_of_le hbs hbl.size
    have hb2 : b' < wr.heap.size := Nat.lt_of_lt_of_le hbs' hbl.size
    have hi0 : (0 : Int) <= (n : Int) := by omega
    have hi1 : (n : Int) < (l.length : Int) := by omega
    go_wp2
    go_region_held3 (fun w' => w'.cell? ⟨b, o + n * 4, none⟩ = some (.int .i64 l[n].code) /\ w'.cell? ⟨b, o + n * 4 + 1, none⟩ = some (.int .i64 l[n].n) /\ w'.cell? ⟨b, o + n * 4 + 2, none⟩ = some (.string l[n].key) /\ w'.cell? ⟨b, o + n * 4 + 3, none⟩ = some (.string l[n].text) /\
     w'.cell? ⟨b', o' + n * 4, none⟩ = some (.int .i64 l[n].code) /\ w'.cell? ⟨b', o' + n * 4 + 1, none⟩ = some (.int .i64 l[n].n) /\ w'.cell? ⟨b', o' + n * 4 + 2, none⟩ = some (.string l[n].key) /\ w'.cell? ⟨b', o' + n * 4 + 3, none⟩ = some (.string l[n].text) /\ wr.heap.size <= w'.heap.size)
     (first | (go_split_ands; refine ⟨?_, ?_, ?_, ?_, ?_, ?_, ?_, ?_, ?_⟩<;>first | assumption | exact (k1 _ _ hb1).trans (by assumption) | exact (k1 _ _ hb2).trans (by assumption) | exact s1 | (simp; done)) | go_keep)
     (first
      | (go_at_call 105; refine (Qdm _ _ _ _ _).mono ?_; rintro e w1 ⟨rfl, g1⟩; obtain ⟨k1, m1⟩ := Qax g1; have s1 := g1.size))
    all_goals
     go_wp2
     exact ⟨⟨n + 1, by go_num, by omega, via0 g1 hbl.drew⟩, by simp [intOf]; omega⟩
  . go_wp2
    go_ret
    exact ⟨rfl, hbl⟩
theorem openAn {H : Type} {enc : TypeId × Value -> H} {w : World} {base n : Nat} {spare : Nat -> Bool} {held : Bool} {a : Addr} {cs : List Value} {y : DataW H × List MemPlace}
 (h1 : w.cells? base a 4 = some cs) (h2 : DataW.trod enc Tryz.prog w base spare held n 106 cs = some y) :
 ∃ x : An, x.right /\ a.spot = none /\ a.block < w.heap.size /\ ∀ j v, (Cel.cs x)[j]? = some v -> w.cell? ⟨a.block, a.off + j, none⟩ = some v := by
 obtain ⟨_, hlen, hc⟩ := World.cells?_some h1
 match cs, hlen with
 | [c0, c1, c2, c3], _ =>
  obtain ⟨m, hf⟩ := Qbi Tryz.underlying106 (by kernel_rfl) h2
  obtain ⟨y0, g0⟩ := hf 0 _ rfl _ rfl
  obtain ⟨y1, g1⟩ := hf 1 _ rfl _ rfl
  obtain ⟨y2, g2⟩ := hf 2 _ rfl _ rfl
  obtain ⟨y3, g3⟩ := hf 3 _ rfl _ rfl
  obtain ⟨code, e0, _, w0⟩ := DataW.trod_int Tryz.underlying3 g0
  obtain ⟨nn, e1, _, w1⟩ := DataW.trod_int Tryz.underlying3 g1
  obtain ⟨key, e2, _, w2⟩ := DataW.trod_string Tryz.underlying9 g2
  obtain ⟨text, e3, _, w3⟩ := DataW.trod_string Tryz.underlying9 g3
  simp at e0 e1 e2 e3
  subst e0 e1 e2 e3
  have q0 := hc 0 (by omega)
  have hsp : a.spot = none := by
   cases hs : a.spot with
   | none => rfl
   | some s => exfalso; simp [Addr.add, World.cell?, hs] at q0; split at q0<;>simp at q0
  have hlt : a.block < w.heap.size := by
   rw [show a.add 0 = a from rfl] at q0
   unfold World.cell? at q0
   cases hh : w.heap[a.block]? with
   | none => simp [hh] at q0
   | some ob => exact (Array.getElem?_eq_some_iff.1 hh).1
  refine ⟨⟨code, nn, key, text⟩, ⟨Qa8 w0, Qa8 w1, by simpa [maxLen] using w2, by simpa [maxLen] using w3⟩, hsp, hlt, ?_⟩
  intro j v hv
  have hj : j < 4 := (List.getElem?_eq_some_iff.1 hv).1
  have q := hc j hj
  have e : a.add j = ⟨a.block, a.off + j, none⟩ := by
   obtain ⟨b, o, s⟩ := a
   simp only at hsp
   subst hsp
   exact Addr.add_mid b o j
  rw [e] at q
  rw [q]
  exact hv
theorem Qef {H : Type} {enc : TypeId × Value -> H} {W : World} {base n : Nat} {spare : Nat -> Bool} {held : Bool} {c : Value} {y : DataW H × List MemPlace}
 (g : DataW.trod enc Tryz.prog W base spare held n 90 [c] = some y) :
 ∃ (A : Option Addr) (cap : Nat) (l : List An), c = .slice A l.length cap /\ l.length <= 9223372036854775807 /\ (∀ x ∈ l, x.right) /\ At W A l := by
 rcases open_slice Tryz.underlying90 g with ⟨e2, _⟩ | ⟨a, len, cap, m, n', D, Pl, e2, _, hl, hm, hmm, _, hx⟩
 . simp at e2
   subst e2
   exact ⟨none, 0, [], rfl, by simp, by simp, .inl rfl⟩
 . simp at e2
   subst e2
   have hle : len <= m := by rw [hmm]; split<;>omega
   rw [cellsAns] at hx
   obtain ⟨X, hX⟩ := choose_lt (α := An) (p := fun i x => x.right /\ (a.add (i * 4)).spot = none /\ (a.add (i * 4)).block < W.heap.size /\ ∀ j v, (Cel.cs x)[j]? = some v -> W.cell? ⟨(a.add (i * 4)).block, (a.add (i * 4)).off + j, none⟩ = some v)
    (n := len) (fun i hi => by obtain ⟨cs', h1, h2⟩ := hx i (by omega); exact openAn h1 h2)
   obtain ⟨l, rfl, hR, hat⟩ := Qdo (α := An) (by decide) (R := An.right) hX
   exact ⟨some a, cap, l, rfl, by simp [maxLen] at hm ⊢; omega, hR, hat⟩
end Go.Proofs.YtkmkldjipihceaaGreat.Gen
