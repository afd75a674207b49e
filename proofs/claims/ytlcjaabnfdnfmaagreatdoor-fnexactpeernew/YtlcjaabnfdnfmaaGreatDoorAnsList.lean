/-
  Lists of answers: how they lie, what the laws' to, sz, eq, mark and held functions of them do; the argument opened. No condition but that there are at most 1048576, and the length that every text has.
-/
import Derived.Test.YtlcjaabnfdnfmaaGreatDoorMarks
import Derived.RangeFuncNested
import Derived.RangeFuncBound
import Derived.Shelf.RegionOpen
import Derived.OwnWalkIn
import Derived.LoopNIn
import Derived.LoopIn
set_option linter.unusedVariables false
set_option linter.unusedSimpArgs false
set_option maxRecDepth 100000
set_option maxHeartbeats 8000000
namespace Go.Proofs.YtlcjaabnfdnfmaaGreatDoor.Gen
open ChangeShapes WideShapes ChangeAt RowKit Joins Deep Base
structure An where
  code : Int
  n : Int
  key : ByteArray
  text : ByteArray
instance : Inhabited An := ⟨⟨0, 0, ⟨#[]⟩, ⟨#[]⟩⟩⟩
instance : Cel An where
  k := 4
  cs x := [.int .i64 x.code, .int .i64 x.n, .string x.key, .string x.text]
  len _ := rfl
  one x u hu := by simp at hu; rcases hu with rfl | rfl | rfl | rfl<;>rfl
def An.right (x : An) : Prop := I64 x.code /\ I64 x.n /\ x.key.size <= 9223372036854775807 /\ x.text.size <= 9223372036854775807
theorem In.getAn {w : World} {b o : Nat} {l : List An} (h : In w b o l) (i : Nat) (hi : i < l.length) :
 w.cell? ⟨b, o + i * 4, none⟩ = some (.int .i64 l[i].code) /\ w.cell? ⟨b, o + i * 4 + 1, none⟩ = some (.int .i64 l[i].n) /\ w.cell? ⟨b, o + i * 4 + 2, none⟩ = some (.string l[i].key) /\ w.cell? ⟨b, o + i * 4 + 3, none⟩ = some (.string l[i].text) :=
 ⟨h.cell i hi (f := 0) rfl, h.cell i hi (f := 1) rfl, h.cell i hi (f := 2) rfl, h.cell i hi (f := 3) rfl⟩
theorem infoAn : (Tryz.prog.info? 122).map (fun i => (i.zero, i.size, i.bytes)) = some (some (.agg #[.int .i64 0, .int .i64 0, .string ⟨#[]⟩, .string ⟨#[]⟩]), 4, 48) := by kernel_rfl
theorem Qhg (code n : Int) (k t : ByteArray) (w : World) :
 Calls Tryz.prog 119 #[.agg #[.int .i64 code, .int .i64 n, .string k, .string t], .agg #[.int .i64 code, .int .i64 n, .string k, .string t]] w fun e w' => e = .returned (.bool true) /\ Below w.heap.size w w' := by
 go_enter Tryz.func119, Tryz.ntmps119
 go_wp2
 go_ret
 exact ⟨rfl, by repeat (first | exact Below.refl _ _ | assumption | refine via0 (by assumption) ?_ | refine Below.drew ?_ | refine Qaa ?_ _)⟩
theorem Qgf (A A' : Option Addr) (cap cap' : Nat) (l : List An) (hl : l.length <= 9223372036854775807) (w : World) (hA : At w A l) (hA' : At w A' l) :
 Calls Tryz.prog 60 #[.slice A l.length cap, .slice A' l.length cap'] w fun e w' => e = .returned (.bool true) /\ Below w.heap.size w w' := by
 have HA := hidP hA
 have HA' := hidP hA'
 clear hA hA'
 go_enter Tryz.func60, Tryz.ntmps60
 go_wp2
 go_loopw [5] (fun i w' => ∃ (n : Nat), i = .int .i64 (n : Int) /\ n <= l.length /\ Below w.heap.size w w') (fun i _ => l.length - (intOf i).toNat)
 case atStart => exact ⟨0, rfl, by omega, Below.refl _ _⟩
 case round =>
  obtain ⟨n, rfl, hn, hbl⟩ := hrel
  by_cases hlt : n < l.length
  . obtain ⟨b, o, rfl, hbs, hin⟩ : ∃ b o, A = some ⟨b, o, none⟩ /\ b < w.heap.size /\ In w b o l := by
     rcases HA.out with h | h
     . subst h; simp at hlt
     . exact h
    obtain ⟨b', o', rfl, hbs', hin'⟩ : ∃ b o, A' = some ⟨b, o, none⟩ /\ b < w.heap.size /\ In w b o l := by
     rcases HA'.out with h | h
     . subst h; simp at hlt
     . exact h
    obtain ⟨c0, c1, c2, c3⟩ := (hin.below hbs hbl).getAn n hlt
    obtain ⟨d0, d1, d2, d3⟩ := (hin'.below hbs' hbl).getAn n hlt
    have hb1 : b < wr.heap.size := Nat.lt_of_lt_of_le hbs hbl.size
    have hb2 : b' < wr.heap.size := Nat.lt_of_lt_of_le hbs' hbl.size
    have hi0 : (0 : Int) <= (n : Int) := by omega
    have hi1 : (n : Int) < (l.length : Int) := by omega
    go_wp2
    go_region_held3 (fun w' => w'.cell? ⟨b, o + n * 4, none⟩ = some (.int .i64 l[n].code) /\ w'.cell? ⟨b, o + n * 4 + 1, none⟩ = some (.int .i64 l[n].n) /\ w'.cell? ⟨b, o + n * 4 + 2, none⟩ = some (.string l[n].key) /\ w'.cell? ⟨b, o + n * 4 + 3, none⟩ = some (.string l[n].text) /\
     w'.cell? ⟨b', o' + n * 4, none⟩ = some (.int .i64 l[n].code) /\ w'.cell? ⟨b', o' + n * 4 + 1, none⟩ = some (.int .i64 l[n].n) /\ w'.cell? ⟨b', o' + n * 4 + 2, none⟩ = some (.string l[n].key) /\ w'.cell? ⟨b', o' + n * 4 + 3, none⟩ = some (.string l[n].text) /\ wr.heap.size <= w'.heap.size)
     (first | (go_split_ands; refine ⟨?_, ?_, ?_, ?_, ?_, ?_, ?_, ?_, ?_⟩<;>first | assumption | exact (k1 _ _ hb1).trans (by assumption) | exact (k1 _ _ hb2).trans (by assumption) | exact s1 | (simp; done)) | go_keep)
     (first
      | (go_at_call 119; refine (Qhg _ _ _ _ _).mono ?_; rintro e w1 ⟨rfl, g1⟩; obtain ⟨k1, m1⟩ := Qaj g1; have s1 := g1.size))
    all_goals
     go_wp2
     exact ⟨⟨n + 1, by go_num, by omega, via0 g1 hbl.drew⟩, by simp [intOf]; omega⟩
  . go_wp2
    go_ret
    exact ⟨rfl, hbl⟩
def markAn (z : Int) : An := ⟨z, z + 1, Items.markZ (z + 2), Items.markZ (z + 3)⟩
def Qbd (n : Nat) (z : Int) : List An := (List.range n).map fun (i : Nat) => markAn (z + (i : Int) * 4)
theorem Qb4 (n : Nat) (z : Int) : (Qbd n z).length = n := by simp [Qbd]
theorem Qin (n : Nat) (z : Int) : Qbd (n + 1) z = Qbd n z ++ [markAn (z + (n : Int) * 4)] := by simp [Qbd, List.range_succ]
theorem Qj6 (n : Nat) (z : Int) (i : Nat) (h : i < (Qbd n z).length) : (Qbd n z)[i] = markAn (z + (i : Int) * 4) := by simp [Qbd]
theorem Qio (n : Nat) (k z : Int) (hz : z = k + (n : Int) * 4) :
 flat (Qbd n k) ++ [.int .i64 z] ++ [.int .i64 (z + 1)] ++ [.string (Items.markZ (z + 1 + 1))] ++ [.string (Items.markZ (z + 1 + 1 + 1))] = flat (Qbd (n + 1) k) := by
 subst hz
 have e2 : ∀ z : Int, z + 1 + 1 = z + 2 := fun z => by omega
 have e3 : ∀ z : Int, z + 1 + 1 + 1 = z + 3 := fun z => by omega
 rw [Qin, Qa1, Qbp, e3, e2]
 simp [Cel.cs, markAn]
theorem Qfa (b o cap m : Nat) (k : Int) (hk : 1 <= k) (hk' : k <= 100000000) (hm : m <= 1048576) (w : World) (hb : b < w.heap.size) (hth : w.there b o (m * 4)) :
 Calls Tryz.prog 67 #[.slice (some ⟨b, o, none⟩) m cap, .int .i64 k] w fun e w' => e = .returned (.int .i64 (k + (m : Int) * 4)) /\ Only b w w' /\ In w' b o (Qbd m k) /\ w'.there b o (m * 4) := by
 have HT := hidP hth
 clear hth
 go_enter Tryz.func67, Tryz.ntmps67
 go_wp2
 go_loopw [1, 5] (fun kk i w' => ∃ (n : Nat) (z : Int), i = .int .i64 (n : Int) /\ kk = .int .i64 z /\ n <= m /\ 1 <= z /\ z <= 900000000 /\ Only b w w' /\ Hid (z = k + (n : Int) * 4) /\ Hid (In w' b o (Qbd n k)) /\ Hid (w'.there b o (m * 4))) (fun _ i _ => m - (intOf i).toNat)
 case atStart => exact ⟨0, k, rfl, rfl, by omega, hk, by omega, Only.refl _ _, by simp [Hid], In.nil _ _ _, HT.out⟩
 case round =>
  obtain ⟨n, z, rfl, rfl, hn, hz1, hz2, ho, hz, hin, hth⟩ := hrel
  by_cases hlt : n < m
  . obtain ⟨⟨v0, d0⟩, f0⟩ := Qaf (f := 0) hth.out hlt (by omega)
    rw [Nat.add_zero] at d0 f0
    obtain ⟨⟨v1, d1⟩, f1⟩ := Qaf (f := 1) hth.out hlt (by omega)
    obtain ⟨⟨v2, d2⟩, f2⟩ := Qaf (f := 2) hth.out hlt (by omega)
    obtain ⟨⟨v3, d3⟩, f3⟩ := Qaf (f := 3) hth.out hlt (by omega)
    have q1 : b < wr.heap.size := Nat.lt_of_lt_of_le hb ho.size
    go_wp2_with (go_at_call 70; refine (Items.markText_at _ ?_ ?_ _).mono ?_; omega; omega; rintro e w1 ⟨rfl, g1⟩; obtain ⟨k1, m1⟩ := Qaj g1; have s1 := g1.size; have q1 : b < w1.heap.size := (by first | exact Qi0 q1 s1 | exact Qi0 (Qi0 q1 (Nat.le_refl _)) s1))
    have hlen : (flat (Qbd n k)).length = n * 4 := by rw [Qap, Qb4]; rfl
    have P0 := push (v := .int .i64 z) (q := o + n * 4) ⟨hin.out, hth.out, Nat.lt_of_lt_of_le hb ho.size⟩ (by rw [hlen]; omega) (by rw [hlen])
    have P1 := push (v := .int .i64 (z + 1)) (q := o + n * 4 + 1) P0 (by simp [hlen]; omega) (by simp [hlen]; omega)
    have P2 := push (v := .string (Items.markZ (z + 1 + 1))) (q := o + n * 4 + 2) (Qeq P1 (by assumption)) (by simp [hlen]; omega) (by simp [hlen]; omega)
    have P3 := push (v := .string (Items.markZ (z + 1 + 1 + 1))) (q := o + n * 4 + 3) (Qeq P2 g1) (by simp [hlen]; omega) (by simp [hlen]; omega)
    rw [Qio n k z hz.out] at P3
    have hz' := hz.out
    refine ⟨⟨n + 1, z + 1 + 1 + 1 + 1, by go_num, rfl, by omega, by omega, by omega, ?_, by show z + 1 + 1 + 1 + 1 = _; omega, P3.1, P3.2.1⟩, by simp [intOf]; omega⟩
    exact (((((ho.set _ _).set _ _).below (by assumption)).set _ _).below g1).set _ _
  . obtain rfl : n = m := by omega
    go_wp2
    go_ret
    have e := hz.out
    subst e
    exact ⟨rfl, ho, hin.out, hth.out⟩
theorem Qfh (A : Option Addr) (cap m : Nat) (k : Int) (hk : 1 <= k) (hk' : k <= 100000000) (hm : m <= 1048576) (w : World)
 (hA : m = 0 ∨ ∃ b o, A = some ⟨b, o, none⟩ /\ b < w.heap.size /\ In w b o (Qbd m k)) :
 Calls Tryz.prog 75 #[.slice A m cap, .int .i64 k] w fun e w' => e = .returned (.int .i64 (k + (m : Int) * 4)) /\ Below w.heap.size w w' := by
 have HA := hidP hA
 clear hA
 go_enter Tryz.func75, Tryz.ntmps75
 go_wp2
 go_loopw [1, 5] (fun kk i w' => ∃ (n : Nat) (z : Int), i = .int .i64 (n : Int) /\ kk = .int .i64 z /\ n <= m /\ 1 <= z /\ z <= 900000000 /\ Hid (z = k + (n : Int) * 4) /\ Below w.heap.size w w') (fun _ i _ => m - (intOf i).toNat)
 case atStart => exact ⟨0, k, rfl, rfl, by omega, hk, by omega, by simp [Hid], Below.refl _ _⟩
 case round =>
  obtain ⟨n, z, rfl, rfl, hn, hz1, hz2, hz, hbl⟩ := hrel
  by_cases hlt : n < m
  . obtain ⟨b, o, rfl, hbs, hin⟩ : ∃ b o, A = some ⟨b, o, none⟩ /\ b < w.heap.size /\ In w b o (Qbd m k) := by
     rcases HA.out with h | h
     . omega
     . exact h
    have hb1 : b < wr.heap.size := Nat.lt_of_lt_of_le hbs hbl.size
    obtain ⟨c0, c1, c2, c3⟩ : wr.cell? ⟨b, o + n * 4, none⟩ = some (.int .i64 z) /\ wr.cell? ⟨b, o + n * 4 + 1, none⟩ = some (.int .i64 (z + 1)) /\ wr.cell? ⟨b, o + n * 4 + 2, none⟩ = some (.string (Items.markZ (z + 1 + 1))) /\
     wr.cell? ⟨b, o + n * 4 + 3, none⟩ = some (.string (Items.markZ (z + 1 + 1 + 1))) := by
     have h := (hin.below hbs hbl).getAn n (by rw [Qb4]; exact hlt)
     rw [Qj6] at h
     have e2 : z + 1 + 1 = z + 2 := by omega
     have e3 : z + 1 + 1 + 1 = z + 3 := by omega
     rw [e3, e2, hz.out]
     exact h
    have hi0 : (0 : Int) <= (n : Int) := by omega
    have hi1 : (n : Int) < (m : Int) := by omega
    go_wp2
    go_region_held3 (fun w' => w'.cell? ⟨b, o + n * 4 + 2, none⟩ = some (.string (Items.markZ (z + 1 + 1))) /\ w'.cell? ⟨b, o + n * 4 + 3, none⟩ = some (.string (Items.markZ (z + 1 + 1 + 1))) /\ b < w'.heap.size)
     (first | (go_split_ands; refine ⟨?_, ?_, ?_⟩<;>first | assumption | exact (k1 _ _ (by assumption)).trans (by assumption) | exact Nat.lt_of_lt_of_le (by assumption) s1 | (simp; done)) | go_keep)
     (first
      | (go_at_call 70; refine (Items.markText_at _ ?_ ?_ _).mono ?_; omega; omega; rintro e w1 ⟨rfl, g1⟩; obtain ⟨k1, m1⟩ := Qaj g1; have s1 := g1.size))
    go_split_ands
    go_wp2
    go_region_held3 (fun w' => w'.cell? ⟨b, o + n * 4 + 3, none⟩ = some (.string (Items.markZ (z + 1 + 1 + 1))) /\ b < w'.heap.size)
     (first | (go_split_ands; refine ⟨?_, ?_⟩<;>first | assumption | exact (k2 _ _ (by assumption)).trans (by assumption) | exact Nat.lt_of_lt_of_le (by assumption) s2 | (simp; done)) | go_keep)
     (first
      | (go_at_call 70; refine (Items.markText_at _ ?_ ?_ _).mono ?_; omega; omega; rintro e w2 ⟨rfl, g2⟩; obtain ⟨k2, m2⟩ := Qaj g2; have s2 := g2.size))
    go_split_ands
    go_wp2
    have hz' := hz.out
    exact ⟨⟨n + 1, z + 1 + 1 + 1 + 1, by go_num, rfl, by omega, by omega, by omega, by show z + 1 + 1 + 1 + 1 = _; omega, via0 g2 (via0 g1 hbl.drew).drew⟩, by simp [intOf]; omega⟩
  . obtain rfl : n = m := by omega
    go_wp2
    go_ret
    have e := hz.out
    subst e
    exact ⟨rfl, hbl⟩
end Go.Proofs.YtlcjaabnfdnfmaaGreatDoor.Gen
namespace Go.Proofs.YtlcjaabnfdnfmaaGreatDoor.Items
open ChangeShapes WideShapes ChangeAt RowKit Base
structure It where
  off : Int
  key : ByteArray
  text : ByteArray
  who : Int
  time : Int
def It.cs (x : It) : List Value := [.int .i64 x.off, .string x.key, .string x.text, .int .i64 x.who, .int .i64 x.time]
def flat (l : List It) : List Value := l.flatMap It.cs
theorem It.cs_length (x : It) : x.cs.length = 5 := rfl
theorem Qap (l : List It) : (flat l).length = l.length * 5 := by
 induction l with
 | nil => rfl
 | cons a l ih => simp only [flat, List.flatMap_cons, List.length_append, List.length_cons] at ih ⊢; rw [ih, It.cs_length]; omega
theorem Qa1 (l m : List It) : flat (l ++ m) = flat l ++ flat m := by simp [flat]
theorem Qbp (x : It) : flat [x] = x.cs := by simp [flat]
theorem Qcx (x : It) (l : List It) : flat (x :: l) = x.cs ++ flat l := by simp [flat]
theorem Qd3 (l : List It) : ∀ (i : Nat) (h : i < l.length) (f : Nat), f < 5 -> (flat l)[i * 5 + f]? = (l[i].cs)[f]? := by
 induction l with
 | nil => intro i h; simp at h
 | cons a l ih =>
  intro i h f hf
  rw [Qcx]
  cases i with
  | zero => rw [List.getElem?_append_left (by rw [It.cs_length]; omega)]; simp
  | succ i =>
   rw [List.getElem?_append_right (by rw [It.cs_length]; omega), It.cs_length]
   have e : (i + 1) * 5 + f - 5 = i * 5 + f := by omega
   rw [e, ih i (by simpa using h) f hf]; simp
def In (w : World) (b o : Nat) (l : List It) : Prop := w.rangeAt b o (flat l)
theorem In.get {w : World} {b o : Nat} {l : List It} (h : In w b o l) (i : Nat) (hi : i < l.length) :
 w.cell? ⟨b, o + i * 5, none⟩ = some (.int .i64 l[i].off) /\ w.cell? ⟨b, o + i * 5 + 1, none⟩ = some (.string l[i].key) /\ w.cell? ⟨b, o + i * 5 + 2, none⟩ = some (.string l[i].text) /\
 w.cell? ⟨b, o + i * 5 + 3, none⟩ = some (.int .i64 l[i].who) /\ w.cell? ⟨b, o + i * 5 + 4, none⟩ = some (.int .i64 l[i].time) := by
 have g : ∀ f v, f < 5 -> (l[i].cs)[f]? = some v -> w.cell? ⟨b, o + (i * 5 + f), none⟩ = some v := fun f v hf hv => h (i * 5 + f) v (by rw [Qd3 l i hi f hf]; exact hv)
 exact ⟨g 0 _ (by omega) rfl, g 1 _ (by omega) rfl, g 2 _ (by omega) rfl, g 3 _ (by omega) rfl, g 4 _ (by omega) rfl⟩
theorem In.below {w w' : World} {b o : Nat} {l : List It} (h : In w b o l) (hb : b < w.heap.size) (hw : Below w.heap.size w w') : In w' b o l :=
 fun j v hv => (hw.cell (p := ⟨b, o + j, none⟩) hb).trans (h j v hv)
end Go.Proofs.YtlcjaabnfdnfmaaGreatDoor.Items
namespace Go.Proofs.YtlcjaabnfdnfmaaGreatDoor.Items
open ChangeShapes WideShapes ChangeAt RowKit Base
theorem via0 {a b c : World} (k : Below b.heap.size b c) (h : Below a.heap.size a b) : Below a.heap.size a c := h.trans (k.mono h.size)
theorem Qaa {a b : World} (h : Below a.heap.size a b) (o : Obj) : Below a.heap.size a (b.alloc o) := h.alloc h.size o
def tot : List It -> Nat
  | [] => 0
  | x :: l => x.key.size + x.text.size + tot l
end Go.Proofs.YtlcjaabnfdnfmaaGreatDoor.Items
namespace Go.Proofs.YtlcjaabnfdnfmaaGreatDoor.Items
open ChangeShapes WideShapes ChangeAt RowKit Base
def It.v (x : It) : Value := .agg #[.int .i64 x.off, .string x.key, .string x.text, .int .i64 x.who, .int .i64 x.time]
end Go.Proofs.YtlcjaabnfdnfmaaGreatDoor.Items
namespace Go.Proofs.YtlcjaabnfdnfmaaGreatDoor.Items
open ChangeShapes WideShapes ChangeAt RowKit Shelf Base
attribute [local go_sem] Oper.semAt_some
abbrev Of (its : List It) : Type := { x : It // x ∈ its }
def vals {its : List It} (l : List (Of its)) : List It := l.map Subtype.val
theorem Qht {its : List It} (l : List (Of its)) (x : Of its) : vals (l ++ [x]) = vals l ++ [x.1] := by simp [vals]
theorem take_next {α : Type} {l : List α} {k : Nat} (h : k < l.length) : l.take (k + 1) = l.take k ++ [l[k]] := by simp [List.take_append_getElem]
theorem Qey (its : List It) : vals its.attach = its := by simp [vals]
theorem vals_pre {its : List It} {p q : List (Of its)} (h : p <+: q) : vals p <+: vals q := h.map _
theorem told1_in (F : Fence) (n : Nat) (hf : F.fn 204) (hro : F.round = none) (hn : 1 <= n) (l Bs n₀ b o cap : Nat) (its : List It) (hl : its.length <= 2000000) (hb : b < n₀) (J Jx : List (Of its) -> World -> Prop)
 (hJ : ∀ pre W o, J pre W -> J pre (W.alloc o))
 (hY : ∀ pre (x : Of its) W, J pre W -> pre.length < its.length -> YieldAt F (n - 1) Tryz.prog l #[x.1.v] W fun e W' =>
  (e = .returned (.bool true) /\ J (pre ++ [x]) W' /\ Below n₀ W W') ∨ (e = .returned (.bool false) /\ Jx (pre ++ [x]) W'))
 (W : World) (hn₀ : n₀ <= W.heap.size) (hBs : W.cell? ⟨Bs, 2, none⟩ = some (.slice (some ⟨b, o, none⟩) its.length cap)) (hin : In W b o its) (h0 : J [] W) :
 CallsIn F n Tryz.prog 204 #[.func (.yield l) #[] #[], .pointer (some ⟨Bs, 0, none⟩)] W fun e W' => (∃ v, e = .returned v) /\
  ((∃ ys, ys = its.attach /\ J ys W') ∨ (∃ pre, pre <+: its.attach /\ Jx pre W')) := by
 refine callsIn_of_wp Tryz.func204 rfl hf ?_ hro
 simp only [Tryz.ntmps204]
 simp only [List.size_toArray, List.length_cons, List.length_nil, Nat.reduceAdd, Nat.reduceSub, Array.replicate_succ, Array.replicate_zero, List.push_toArray, List.append_toArray, List.nil_append, List.cons_append]
 gi_wp2
 gi_loopw [8] (fun i wr => ∃ k : Nat, k <= its.length /\ i = .int .i64 k /\ J (its.attach.take k) wr /\ Below n₀ W wr)
  (fun i _ => its.length - (intOf i).toNat)
 case atStart => exact ⟨0, Nat.zero_le _, rfl, by simpa using h0, Below.refl _ _⟩
 case round =>
  obtain ⟨k, hk, rfl, hJs, hnx⟩ := hrel
  have hsz := hnx.size
  by_cases hlt : k < its.length
  . have hin' : In wr b o its := fun j v hv => (hnx.cell (p := ⟨b, o + j, none⟩) hb).trans (hin j v hv)
    obtain ⟨c0, c1, c2, c3, c4⟩ := hin'.get k hlt
    have hY' := hY (its.attach.take k) ⟨its[k], List.getElem_mem hlt⟩ (wr.alloc (.cells #[.int .i64 its[k].off, .string its[k].key, .string its[k].text, .int .i64 its[k].who, .int .i64 its[k].time] 136)) (hJ _ _ _ hJs) (by simp; omega)
    have hnext : its.attach.take (k + 1) = its.attach.take k ++ [⟨its[k], List.getElem_mem hlt⟩] := by rw [take_next (by simpa using hlt)]; simp
    clear hY
    obtain ⟨fn, tmps, assign, body, hy, hR⟩ := hY'
    dsimp only [It.v] at hy
    gi_wp2
    refine hR.mono ?_
    rintro e W3 (⟨rfl, hJ3, hk3⟩ | ⟨rfl, hJx3⟩)
    . gi_wp2
      go_roundw
      case rel => exact ⟨k + 1, by omega, by simp, by rw [hnext]; exact hJ3, (hnx.alloc (by omega) _).trans hk3⟩
      case measure => simp [intOf]; omega
    . gi_wp2
      refine bodyPost_ret (results_none rfl _ _ _) rfl ?_
      exact ⟨⟨_, rfl⟩, .inr ⟨_, by rw [← hnext]; exact List.take_prefix _ _, hJx3⟩⟩
  . obtain rfl : k = its.length := by omega
    gi_wp2
    go_end0
    exact ⟨⟨_, rfl⟩, .inl ⟨_, rfl, by rw [List.take_of_length_le (by simp)] at hJs; exact hJs⟩⟩
theorem Qhw (F : Fence) (n : Nat) (hf : F.fn 204) (hro : F.round = none) (l Bs cap : Nat) (A : Option Addr) {α : Type} (J : List α -> World -> Prop) (W : World) (hBs : W.cell? ⟨Bs, 2, none⟩ = some (.slice A 0 cap)) (h0 : J [] W) :
 CallsIn F n Tryz.prog 204 #[.func (.yield l) #[] #[], .pointer (some ⟨Bs, 0, none⟩)] W fun e W' => (∃ v, e = .returned v) /\ J [] W' := by
 refine callsIn_of_wp Tryz.func204 rfl hf ?_ hro
 simp only [Tryz.ntmps204]
 simp only [List.size_toArray, List.length_cons, List.length_nil, Nat.reduceAdd, Nat.reduceSub, Array.replicate_succ, Array.replicate_zero, List.push_toArray, List.append_toArray, List.nil_append, List.cons_append]
 gi_wp2
 gi_loopw [8] (fun i wr => i = .int .i64 0 /\ J [] wr) (fun _ _ => 0)
 case atStart => exact ⟨rfl, h0⟩
 case round =>
  obtain ⟨rfl, hJs⟩ := hrel
  gi_wp2
  go_end0
  exact ⟨⟨_, rfl⟩, hJs⟩
theorem told_in (F : Fence) (n : Nat) (hf : F.fn 176) (hro : F.round = none) (start next : Int) (A : Option Addr) (len cap : Nat) (w : World) :
 CallsIn F n Tryz.prog 176 #[.agg #[.int .i64 start, .int .i64 next, .slice A len cap]] w fun e w' => e = .returned (.func (.func 204) #[] #[.pointer (some ⟨w.heap.size, 0, none⟩)]) /\ w' = w.alloc (.cells #[.int .i64 start, .int .i64 next, .slice A len cap] 133) := by
 refine callsIn_of_wp Tryz.func176 rfl hf ?_ hro
 simp only [Tryz.ntmps176]
 simp only [List.size_toArray, List.length_cons, List.length_nil, Nat.reduceAdd, Nat.reduceSub, Array.replicate_succ, Array.replicate_zero, List.push_toArray, List.append_toArray, List.nil_append, List.cons_append]
 gi_wp2
 go_ret
 exact ⟨rfl, rfl⟩
theorem Qjp {β : Type} {B : Nat} {J : β -> World -> Prop} (h : AbidesFrom B J) (pre : β) (W : World) (o : Obj) (hj : J pre W) : J pre (W.alloc o) :=
 h pre W _ none hj (World.grownBy_alloc W o none) (fun r e => by cases e)
theorem Qgj (F : Fence) (n : Nat) (hf : F.fn 204) (hro : F.round = none) (hn : 1 <= n) (Bs n₀ cap : Nat) (A : Option Addr) (its : List It) (hl : its.length <= 2000000) (w : World) (hBs : Bs < w.heap.size) (hn₀ : n₀ <= w.heap.size)
 (hc : w.cell? ⟨Bs, 2, none⟩ = some (.slice A its.length cap)) (hA : its = [] ∨ ∃ b o, A = some ⟨b, o, none⟩ /\ b < n₀ /\ In w b o its) :
 SeqStopsK F n Tryz.prog 204 #[.pointer (some ⟨Bs, 0, none⟩)] (fun x : Of its => #[x.1.v]) (Below n₀) (fun ys => vals ys = its) (fun pre => vals pre <+: its) its.length w := fun l J Jx W hW hJ _ hY h0 => by
 have hc' := (hW.cell (p := ⟨Bs, 2, none⟩) hBs).trans hc
 rcases hA with rfl | ⟨b, o, rfl, hb, hin⟩
 . exact (Qhw F n hf hro l Bs cap A J W hc' h0).mono fun e W' ⟨he, hj⟩ => ⟨he, .inl ⟨_, rfl, hj⟩⟩
 . refine (told1_in F n hf hro hn l Bs n₀ b o cap its hl hb J Jx (fun pre W o hj => Qjp hJ pre W o hj) hY W (Nat.le_trans hn₀ hW.size) hc' (fun j v hv => (hW.cell (p := ⟨b, o + j, none⟩) (Nat.lt_of_lt_of_le hb hn₀)).trans (hin j v hv)) h0).mono ?_
   rintro e W' ⟨he, ⟨ys, rfl, hj⟩ | ⟨pre, hp, hj⟩⟩
   . exact ⟨he, .inl ⟨_, Qey its, hj⟩⟩
   . exact ⟨he, .inr ⟨_, by have := vals_pre hp; rwa [Qey] at this, hj⟩⟩
def Blk (W : World) (B : Nat) (t : TypeId) (vs : Array Value) : Prop := W.heap[B]? = some (.cells vs t (0, 0))
theorem Blk.lt {W : World} {B : Nat} {t : TypeId} {vs : Array Value} (h : Blk W B t vs) : B < W.heap.size := (Array.getElem?_eq_some_iff.1 h).1
theorem Blk.cell {W : World} {B : Nat} {t : TypeId} {vs : Array Value} (h : Blk W B t vs) {i : Nat} {v : Value} (hv : vs[i]? = some v) : W.cell? ⟨B, i, none⟩ = some v := by simp [World.cell?, show W.heap[B]? = _ from h, hv]
theorem Blk.new (W : World) (t : TypeId) (vs : Array Value) : Blk (W.alloc (.cells vs t)) W.heap.size t vs := World.alloc_heap_new W _
theorem Blk.kept {W W' : World} {row : Option Nat} {B : Nat} {t : TypeId} {vs : Array Value} (h : Blk W B t vs) (hg : W.grownBy W' row) (hne : some B ≠ row) : Blk W' B t vs := (hg.block B h.lt hne).trans h
theorem Blk.alloc {W : World} {B : Nat} {t : TypeId} {vs : Array Value} (h : Blk W B t vs) (o : Obj) : Blk (W.alloc o) B t vs := h.kept (World.grownBy_alloc W o none) (by simp)
theorem Blk.other {W : World} {B B' : Nat} {t : TypeId} {vs : Array Value} (h : Blk W B t vs) (hne : B ≠ B') (i : Nat) (u : Value) : Blk (W.setCell ⟨B', i, none⟩ u) B t vs := by
 show (W.heap.modify B' _)[B]? = _
 rw [Array.getElem?_modify, if_neg (Ne.symm hne)]; exact h
theorem Blk.below {W W' : World} {n : Nat} {B : Nat} {t : TypeId} {vs : Array Value} (h : Blk W B t vs) (hb : Below n W W') (hn : B < n) : Blk W' B t vs := (hb.block B hn).trans h
theorem blk_own {β : Type} (B : Nat) (t : TypeId) (f : β -> Array Value) : Own (fun s W => Blk W B t (f s)) := fun s X Y row hs hg hrow =>
 hs.kept hg (fun e' => by obtain ⟨o, ho, hc⟩ := hrow B e'.symm; rw [show X.heap[B]? = _ from hs] at ho; cases ho; cases hc)
end Go.Proofs.YtlcjaabnfdnfmaaGreatDoor.Items
namespace Go.Proofs.YtlcjaabnfdnfmaaGreatDoor.Items
open ChangeShapes WideShapes ChangeAt RowKit Base
def Qfx (k t : ByteArray) (who time : Int) : Bool := textB k && textB t && inB who 0 3 && inB time 0 100000
def Qdd (x : It) : Bool := Qfx x.key x.text x.who x.time
theorem four (p q r s : Bool) : p = false ∨ (p = true /\ q = false) ∨ (p = true /\ q = true /\ r = false) ∨ (p = true /\ q = true /\ r = true /\ s = false) ∨ (p = true /\ q = true /\ r = true /\ s = true) := by
 cases p<;>cases q<;>cases r<;>cases s<;>simp
theorem Qh1 (off who time : Int) (k t : ByteArray) (hk : k.size <= 9223372036854775807) (ht : t.size <= 9223372036854775807) (w : World) :
 Calls Tryz.prog 126 #[.agg #[.int .i64 off, .string k, .string t, .int .i64 who, .int .i64 time]] w fun e w' => e = .returned (.bool (Qfx k t who time)) /\ Below w.heap.size w w' := by
 rcases four (textB k) (textB t) (inB who 0 3) (inB time 0 100000) with h1 | ⟨h1, h2⟩ | ⟨h1, h2, h3⟩ | ⟨h1, h2, h3, h4⟩ | ⟨h1, h2, h3, h4⟩
 all_goals
  go_enter Tryz.func126, Tryz.ntmps126
  have q1 : w.heap.size < w.heap.size + 1 := Nat.lt_succ_self _
  go_wp2_with (first
   | (go_at_call 11; refine (in_any _ _ _ _).mono ?_; rintro e w' ⟨rfl, rfl⟩)
   | (go_at_call_of 127 (Value.string k); refine (specText_any k hk _).mono ?_; rintro e w1 ⟨rfl, g1⟩; obtain ⟨c1, f1⟩ := Qaj g1; have s1 := g1.size; try simp at s1; have q1 : w.heap.size < w1.heap.size := by omega)
   | (go_at_call_of 127 (Value.string t); refine (specText_any t ht _).mono ?_; rintro e w1 ⟨rfl, g1⟩; obtain ⟨c1, f1⟩ := Qaj g1; have s1 := g1.size; try simp at s1; have q1 : w.heap.size < w1.heap.size := by omega))
  go_ret
  refine ⟨by simp [Qfx, *], ?_⟩
  repeat (first | exact Below.refl _ _ | refine via0 (by assumption) ?_ | refine Below.drew ?_ | refine Qaa ?_ _)
def chain (start nb : Int) : Option Int -> List It -> Bool
  | _, [] => true
  | p, x :: l => Qdd x && inB x.off start nb && (match p with | none => true | some o => decide (o < x.off)) && chain start nb (some x.off) l
def prevO (l : List It) (n : Nat) : Option Int := match n with
  | 0 => none
  | p + 1 => (l[p]?).map (·.off)
def Qah (start nb : Int) (l : List It) (n : Nat) : Bool := chain start nb (prevO l n) (l.drop n)
theorem Qho {start nb : Int} {l : List It} {n : Nat} (h : l.length <= n) : Qah start nb l n = true := by
 unfold Qah; rw [List.drop_eq_nil_of_le h]; rfl
def ordB (l : List It) (n : Nat) (x : Int) : Bool := match prevO l n with
  | none => true
  | some o => decide (o < x)
theorem Qgh {start nb : Int} {l : List It} {n : Nat} (h : n < l.length) :
 Qah start nb l n = (Qdd l[n] && inB l[n].off start nb && ordB l n l[n].off && Qah start nb l (n + 1)) := by
 have e2 : prevO l (n + 1) = some l[n].off := by simp [prevO, List.getElem?_eq_getElem h]
 unfold Qah ordB
 rw [e2, List.drop_eq_getElem_cons h]
 cases prevO l n<;>rfl
theorem ordB_zero (l : List It) (x : Int) : ordB l 0 x = true := rfl
theorem ordB_succ {l : List It} {p : Nat} (h : p < l.length) (x : Int) : ordB l (p + 1) x = decide (l[p].off < x) := by
 simp [ordB, prevO, List.getElem?_eq_getElem h]
def rowB (start next : Int) (l : List It) : Bool := Qah start (next - 1) l 0 && inB start 0 next && decide (next <= 100000) && decide (l.length <= 80)
theorem Qcf (v : Bool) (off who time : Int) (k t : ByteArray) (hk : k.size <= 9223372036854775807) (ht : t.size <= 9223372036854775807) (h : Hid (Qfx k t who time = v)) (w : World) :
 Calls Tryz.prog 126 #[.agg #[.int .i64 off, .string k, .string t, .int .i64 who, .int .i64 time]] w fun e w' => e = .returned (.bool v) /\ Below w.heap.size w w' := by
 have := Qh1 off who time k t hk ht w
 rw [h.out] at this
 exact this
theorem in_is (v : Bool) (x lo hi : Int) (h : Hid (inB x lo hi = v)) (w : World) :
 Calls Tryz.prog 11 #[.int .i64 x, .int .i64 lo, .int .i64 hi] w fun e w' => e = .returned (.bool v) /\ w' = w := by
 have := in_any x lo hi w
 rw [h.out] at this
 exact this
end Go.Proofs.YtlcjaabnfdnfmaaGreatDoor.Items
