/-
  Items in memory: a list of items lies in a block, five cells an item; a slice value that holds a list of items. No condition.
-/
import Derived.Test.YtmdaammalacifaaGreatBase
import Derived.Deep.MidRow
import Derived.Test.YtmdaammalacifaaGreatRows
import Derived.WalkSpells
import Derived.Lib.ItoaNum
set_option linter.unusedVariables false
set_option linter.unusedSimpArgs false
set_option maxRecDepth 100000
set_option maxHeartbeats 8000000
namespace Go.Proofs.YtmdaammalacifaaGreat.Items
open ChangeShapes WideShapes ChangeAt RowKit Base
structure It where
  off : Int
  key : ByteArray
  text : ByteArray
  who : Int
  time : Int
def It.cs (x : It) : List Value := [.int .i64 x.off, .string x.key, .string x.text, .int .i64 x.who, .int .i64 x.time]
def flat (l : List It) : List Value := l.flatMap It.cs
theorem It.cs_length (x : It) : x.cs.length = 5 := rfl
theorem Qaw (l : List It) : (flat l).length = l.length * 5 := by
 induction l with
 | nil => rfl
 | cons a l ih => simp only [flat, List.flatMap_cons, List.length_append, List.length_cons] at ih ⊢; rw [ih, It.cs_length]; omega
theorem Qa2 (l m : List It) : flat (l ++ m) = flat l ++ flat m := by simp [flat]
theorem Qbe (x : It) : flat [x] = x.cs := by simp [flat]
theorem Qcq (x : It) (l : List It) : flat (x :: l) = x.cs ++ flat l := by simp [flat]
theorem Qdu (l : List It) : ∀ (i : Nat) (h : i < l.length) (f : Nat), f < 5 -> (flat l)[i * 5 + f]? = (l[i].cs)[f]? := by
 induction l with
 | nil => intro i h; simp at h
 | cons a l ih =>
  intro i h f hf
  rw [Qcq]
  cases i with
  | zero => rw [List.getElem?_append_left (by rw [It.cs_length]; omega)]; simp
  | succ i =>
   rw [List.getElem?_append_right (by rw [It.cs_length]; omega), It.cs_length]
   have e : (i + 1) * 5 + f - 5 = i * 5 + f := by omega
   rw [e, ih i (by simpa using h) f hf]; simp
def In (w : World) (b o : Nat) (l : List It) : Prop := w.rangeAt b o (flat l)
theorem In.get {w : World} {b o : Nat} {l : List It} (h : In w b o l) (i : Nat) (hi : i < l.length) :
 w.cell? ⟨b, o + i * 5, none⟩ = some (.int .i64 l[i].off) /\ w.cell? ⟨b, o + i * 5 + 1, none⟩ = some (.string l[i].key) /\ w.cell? ⟨b, o + i * 5 + 2, none⟩ = some (.string l[i].text) /\
 w.cell? ⟨b, o + i * 5 + 3, none⟩ = some (.int .i64 l[i].who) /\ w.cell? ⟨b, o + i * 5 + 4, none⟩ = some (.int .i64 l[i].time) := by
 have g : ∀ f v, f < 5 -> (l[i].cs)[f]? = some v -> w.cell? ⟨b, o + (i * 5 + f), none⟩ = some v := fun f v hf hv => h (i * 5 + f) v (by rw [Qdu l i hi f hf]; exact hv)
 exact ⟨g 0 _ (by omega) rfl, g 1 _ (by omega) rfl, g 2 _ (by omega) rfl, g 3 _ (by omega) rfl, g 4 _ (by omega) rfl⟩
theorem In.below {w w' : World} {b o : Nat} {l : List It} (h : In w b o l) (hb : b < w.heap.size) (hw : Below w.heap.size w w') : In w' b o l :=
 fun j v hv => (hw.cell (p := ⟨b, o + j, none⟩) hb).trans (h j v hv)
end Go.Proofs.YtmdaammalacifaaGreat.Items
namespace Go.Proofs.YtmdaammalacifaaGreat.Items
open ChangeShapes WideShapes ChangeAt RowKit Base
theorem via0 {a b c : World} (k : Below b.heap.size b c) (h : Below a.heap.size a b) : Below a.heap.size a c := h.trans (k.mono h.size)
theorem Qab {a b : World} (h : Below a.heap.size a b) (o : Obj) : Below a.heap.size a (b.alloc o) := h.alloc h.size o
def szI (k t : Nat) (left : Int) : Int := if left < k then -1 else if left < k + t then -1 else left - k - t
theorem szItem_any (off who time : Int) (k t : ByteArray) (left : Int) (h0 : 0 <= left) (h1 : left <= 1048576) (hk : k.size <= 9223372036854775807) (ht : t.size <= 9223372036854775807) (w : World) :
 Calls Tryz.prog 137 #[.agg #[.int .i64 off, .string k, .string t, .int .i64 who, .int .i64 time], .int .i64 left] w fun e w' => e = .returned (.int .i64 (szI k.size t.size left)) /\ Below w.heap.size w w' := by
 by_cases h1 : left < k.size
 focus
  have g1 : left - (k.size : Int) < 0 := by omega
  have e1 : szI k.size t.size left = -1 := by simp [szI, h1]
 rotate_left
 focus
  have g1 : ¬ left - (k.size : Int) < 0 := by omega
  by_cases h2 : left < k.size + t.size
  focus
   have g2 : left - (k.size : Int) - (t.size : Int) < 0 := by omega
   have e1 : szI k.size t.size left = -1 := by simp [szI, h1, h2]
  rotate_left
  focus
   have g2 : ¬ left - (k.size : Int) - (t.size : Int) < 0 := by omega
   have e1 : szI k.size t.size left = left - k.size - t.size := by simp [szI, h1, h2]
 all_goals
  rw [e1]
  go_enter Tryz.func137, Tryz.ntmps137
  go_wp2
  go_ret
  exact ⟨rfl, by repeat (first | exact Below.refl _ _ | refine via0 (by assumption) ?_ | refine Below.drew ?_ | refine Qab ?_ _)⟩
theorem szI_ge {k t : Nat} {left : Int} (h0 : 0 <= left) (h : 0 <= szI k t left) : szI k t left = left - k - t := by
 unfold szI at h ⊢
 split at h
 . omega
 . split at h
   . omega
   . rw [if_neg (by assumption), if_neg (by assumption)]
def tot : List It -> Nat
  | [] => 0
  | x :: l => x.key.size + x.text.size + tot l
theorem tot_append (l m : List It) : tot (l ++ m) = tot l + tot m := by
 induction l with
 | nil => simp [tot]
 | cons x l ih => simp only [List.cons_append, tot, ih]; omega
theorem tot_take {l : List It} {n : Nat} (h : n < l.length) : tot (l.take (n + 1)) = tot (l.take n) + (l[n].key.size + l[n].text.size) := by
 rw [List.take_succ_eq_append_getElem h, tot_append]; simp [tot]
theorem szItemS_at (A : Option Addr) (cap : Nat) (l : List It) (hl : l.length <= 9223372036854775807) (hs : ∀ x ∈ l, x.key.size <= 9223372036854775807 /\ x.text.size <= 9223372036854775807) (left : Int) (hl0 : 0 <= left) (hl1 : left <= 1048576) (w : World)
 (hA : l = [] ∨ ∃ b o, A = some ⟨b, o, none⟩ /\ b < w.heap.size /\ In w b o l) :
 Calls Tryz.prog 131 #[.slice A l.length cap, .int .i64 left] w fun e w' => ∃ r : Int, e = .returned (.int .i64 r) /\ (r = -1 ∨ (0 <= r /\ r = left - l.length - tot l)) /\ Below w.heap.size w w' := by
 by_cases hb : left - (l.length : Int) < 0
 . go_enter Tryz.func131, Tryz.ntmps131
   go_wp2
   go_ret
   exact ⟨-1, rfl, .inl rfl, Below.refl _ _⟩
 . have HA : Hid (l = [] ∨ ∃ b o, A = some ⟨b, o, none⟩ /\ b < w.heap.size /\ In w b o l) := hA
   clear hA
   go_enter Tryz.func131, Tryz.ntmps131
   go_wp2
   go_loopw [1, 5] (fun le i w' => ∃ (n : Nat) (r : Int), i = .int .i64 (n : Int) /\ le = .int .i64 r /\ n <= l.length /\ 0 <= r /\ r <= 1048576 /\ Hid (r = left - l.length - tot (l.take n)) /\ Below w.heap.size w w') (fun _ i _ => l.length - (intOf i).toNat)
   case atStart => exact ⟨0, _, rfl, rfl, by omega, by omega, by omega, by simp [tot, Hid], Below.refl _ _⟩
   case round =>
    obtain ⟨n, r, rfl, rfl, hn, h0, h1, hr, hbl⟩ := hrel
    by_cases hlt : n < l.length
    . obtain ⟨b, o, rfl, hbs, hin⟩ : ∃ b o, A = some ⟨b, o, none⟩ /\ b < w.heap.size /\ In w b o l := by
       rcases HA.out with h | h
       . subst h; simp at hlt
       . exact h
      obtain ⟨hc0, hc1, hc2, hc3, hc4⟩ := (hin.below hbs hbl).get n hlt
      obtain ⟨hk, ht⟩ := hs l[n] (List.getElem_mem hlt)
      have HT := tot_take hlt
      go_wp2_with (go_at_call 137; refine (szItem_any _ _ _ _ _ _ h0 h1 hk ht _).mono ?_; rintro e w1 ⟨rfl, g1⟩)
      . go_ret
        exact ⟨-1, rfl, .inl rfl, via0 g1 hbl⟩
      . have hge : 0 <= szI l[n].key.size l[n].text.size r := by assumption
        have he := szI_ge h0 hge
        refine ⟨⟨n + 1, szI l[n].key.size l[n].text.size r, by go_num, rfl, by omega, hge, by omega, ?_, via0 g1 hbl⟩, by simp [intOf]; omega⟩
        have hr' := hr.out
        show szI l[n].key.size l[n].text.size r = left - l.length - tot (l.take (n + 1))
        rw [HT, he, hr']
        omega
    . have e : l.take n = l := List.take_of_length_le (by omega)
      go_wp2
      go_ret
      exact ⟨r, rfl, .inr ⟨h0, by have := hr.out; rw [e] at this; exact this⟩, hbl⟩
theorem szRow_at (start next : Int) (A : Option Addr) (cap : Nat) (l : List It) (hl : l.length <= 9223372036854775807) (hs : ∀ x ∈ l, x.key.size <= 9223372036854775807 /\ x.text.size <= 9223372036854775807) (left : Int) (hl0 : 0 <= left) (hl1 : left <= 1048576) (w : World)
 (hA : l = [] ∨ ∃ b o, A = some ⟨b, o, none⟩ /\ b < w.heap.size /\ In w b o l) :
 Calls Tryz.prog 101 #[.agg #[.int .i64 start, .int .i64 next, .slice A l.length cap], .int .i64 left] w fun e w' => ∃ r : Int, e = .returned (.int .i64 r) /\ (r < 0 ∨ (0 <= r /\ r = left - l.length - tot l)) /\ Below w.heap.size w w' := by
 have hA' : ∀ ob : Obj, l = [] ∨ ∃ b o, A = some ⟨b, o, none⟩ /\ b < (w.alloc ob).heap.size /\ In (w.alloc ob) b o l := fun ob => by
  rcases hA with h | ⟨b, o, h1, h2, h3⟩
  . exact .inl h
  . exact .inr ⟨b, o, h1, by simp; omega, h3.below h2 (Qab (Below.refl _ _) ob)⟩
 have HA : Hid (∀ ob : Obj, l = [] ∨ ∃ b o, A = some ⟨b, o, none⟩ /\ b < (w.alloc ob).heap.size /\ In (w.alloc ob) b o l) := hA'
 clear hA hA'
 go_enter Tryz.func101, Tryz.ntmps101
 go_wp2_with (go_at_call 131; refine (szItemS_at A cap l hl hs left hl0 hl1 _ (HA.out _)).mono ?_; rintro e w1 ⟨r, rfl, hr, g1⟩; have HR : Hid (r = -1 ∨ (0 <= r /\ r = left - l.length - tot l)) := hr; clear hr)
 . go_ret
   refine ⟨-1, rfl, .inl (by omega), ?_⟩
   repeat (first | exact Below.refl _ _ | refine via0 (by assumption) ?_ | refine Below.drew ?_ | refine Qab ?_ _)
 . go_ret
   refine ⟨r, rfl, ?_, ?_⟩
   . rcases HR.out with h | h
     . omega
     . exact .inr h
   . repeat (first | exact Below.refl _ _ | refine via0 (by assumption) ?_ | refine Below.drew ?_ | refine Qab ?_ _)
end Go.Proofs.YtmdaammalacifaaGreat.Items
namespace Go.Proofs.YtmdaammalacifaaGreat.Items
open ChangeShapes WideShapes ChangeAt RowKit Base
def Qcy (u : Nat) (out : List UInt8) : List UInt8 := if u = 0 then out else Lib.decDigits u ++ out
theorem Qe5 (u : Nat) (hu : u ≠ 0) (out : List UInt8) : Qcy u out = Qcy (u / 10) (UInt8.ofNat (48 + u % 10) :: out) := by
 unfold Qcy
 rw [if_neg hu]
 by_cases h : u < 10
 . have h0 : u / 10 = 0 := by omega
   have h1 : u % 10 = u := by omega
   rw [h0, if_pos rfl, Lib.decDigits_one h, h1]; rfl
 . have h0 : u / 10 ≠ 0 := by omega
   rw [if_neg h0, Lib.decDigits, dif_neg h, List.append_assoc]; rfl
theorem conv1 (w : World) (x : Int) :
 (convert 35 9 (.slice (some ⟨w.heap.size, 0, none⟩) 1 1)).run Tryz.prog (w.alloc (.cells #[.int .u8 x] 5)) = .ok (.string ⟨#[UInt8.ofNat x.toNat]⟩) (w.alloc (.cells #[.int .u8 x] 5)) := by
 rw [run_convert_bytes_arg (w.alloc (.cells #[.int .u8 x] 5)) 35 5 Tryz.underlying35 Tryz.underlying5 w.heap.size 0 1 1 [x] rfl (fun i hi => by
  obtain rfl : i = 0 := by omega
  simp) 9 Tryz.underlying9]
 rfl
theorem cat1 (x : Nat) (out : List UInt8) : (Value.string ((⟨#[48 + UInt8.ofNat x]⟩ : ByteArray) ++ ⟨out.toArray⟩)) = .string ⟨(UInt8.ofNat (48 + x) :: out).toArray⟩ := by
 congr 1
 apply ByteArray.ext
 simp [ByteArray.data_append]
theorem cut10 (u j n : Nat) (hu : u ≠ 0) (h : u < 10 ^ j) (hn : n + j = 19) : n <= 18 /\ u / 10 < 10 ^ (j - 1) /\ n + 1 + (j - 1) = 19 := by
 cases j with
 | zero => simp at h; omega
 | succ j => rw [Nat.pow_succ] at h; simp; omega
def markT (k : Nat) : ByteArray := ⟨(109 :: Lib.decDigits k).toArray⟩
theorem Qfv (u0 : Nat) (h0 : u0 ≠ 0) (hlt : u0 <= 1000000000) (w : World) :
    Calls Tryz.prog 93 #[.int .i64 (u0 : Int)] w fun e w' => e = .returned (.string (markT u0)) /\ Below w.heap.size w w' := by
  have hn : ¬ (u0 : Int) <= 0 := by omega
  go_enter Tryz.func93, Tryz.ntmps93
  go_wp2
  go_loopw [0, 3] (fun n o w' => ∃ (u j : Nat) (out : List UInt8), n = .int .i64 (u : Int) /\ o = .string ⟨out.toArray⟩ /\ Hid (u < 10 ^ j /\ out.length + j = 19 /\ Qcy u out = Lib.decDigits u0) /\ u <= u0 /\ Below w.heap.size w w') (fun n _ _ => (intOf n).toNat)
  case atStart => exact ⟨u0, 19, [], rfl, rfl, ⟨by have : (10 : Nat) ^ 19 = 10000000000000000000 := by decide
                                                   omega, rfl, by simp [Qcy, h0]⟩, Nat.le_refl _, Below.refl _ _⟩
  case round =>
   obtain ⟨u, j, out, rfl, rfl, HH, hle, hbl⟩ := hrel
   by_cases hz : u = 0
   . have hz' : ¬ (u : Int) > 0 := by omega
     have hc : out.length <= 19 := by have := HH.out.2.1; omega
     go_wp2
     go_ret
     obtain ⟨_, _, hE⟩ := HH.out
     refine ⟨?_, hbl⟩
     rw [markT, ← hE, Qcy, if_pos hz]; rfl
   . have hz' : (u : Int) > 0 := by omega
     have hconv := conv1
     have hc : out.length <= 18 := (cut10 u j _ hz HH.out.1 HH.out.2.1).1
     go_wp2
     obtain ⟨a1, a2, a3⟩ := HH.out
     obtain ⟨b1, b2, b3⟩ := cut10 u j _ hz a1 a2
     refine ⟨⟨u / 10, j - 1, UInt8.ofNat (48 + u % 10) :: out, by go_num, cat1 _ _, ⟨b2, by simp; omega, by rw [← Qe5 u hz]; exact a3⟩, by omega, hbl.alloc hbl.size _⟩, ?_⟩
     simp [intOf]; omega
def markZ (z : Int) : ByteArray := markT z.toNat
theorem markText_at (z : Int) (h1 : 1 <= z) (h2 : z <= 1000000000) (w : World) :
 Calls Tryz.prog 93 #[.int .i64 z] w fun e w' => e = .returned (.string (markZ z)) /\ Below w.heap.size w w' := by
 have e : ((z.toNat : Nat) : Int) = z := by omega
 have := Qfv z.toNat (by omega) (by omega) w
 rw [e] at this
 exact this
end Go.Proofs.YtmdaammalacifaaGreat.Items
