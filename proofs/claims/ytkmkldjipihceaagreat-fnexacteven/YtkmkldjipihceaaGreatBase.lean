/-
  Laws of our own that every claim of this seat leans on: how a law's row is closed once its call is known to answer true and to turn nothing that was there. No condition.
-/
import Derived.Test.YtkmkldjipihceaaGreatRows
import Derived.Lib.SmallJoins
import Derived.Deep.RegionHeld3
import Derived.Deep.AppendLies
import Derived.Deep.Upon
set_option linter.unusedVariables false
set_option linter.unusedSimpArgs false
set_option maxRecDepth 100000
set_option maxHeartbeats 8000000
set_option maxRecDepth 100000
set_option maxHeartbeats 8000000
namespace Go.Proofs.YtkmkldjipihceaaGreat
abbrev Qgw : Array Value := #[.int .i64 0, .int .i64 0, .int .i64 0, .int .i64 0, .int .i64 0, .int .i64 0, .int .i64 0, .slice none 0 0, .bool false, .string ⟨#[]⟩]
abbrev Qcn : Array Value := #[.int .i64 0, .int .i64 0, .int .i64 0, .int .i64 0, .int .i64 0, .int .i64 0, .int .i64 0, .string ⟨#[]⟩, .string ⟨#[]⟩]
abbrev Qc5 : Array Value := #[.int .i64 0, .int .i64 0, .int .i64 0, .int .i64 0, .int .i64 0, .int .i64 0, .string ⟨#[]⟩, .string ⟨#[]⟩]
abbrev Qak : Array Value := #[.int .i64 0, .int .i64 0, .int .i64 0, .int .i64 0, .int .i64 0, .slice none 0 0, .slice none 0 0, .slice none 0 0, .slice none 0 0, .int .i64 0, .slice none 0 0, .slice none 0 0, .int .i64 0, .slice none 0 0, .slice none 0 0, .slice none 0 0, .int .i64 0, .slice none 0 0, .slice none 0 0, .slice none 0 0, .int .i64 0, .slice none 0 0, .slice none 0 0, .slice none 0 0, .int .i64 0, .slice none 0 0]
abbrev Qa1 : Array Value := #[.int .i64 0, .int .i64 0, .int .i64 0, .int .i64 0, .int .i64 0, .slice none 0 0, .slice none 0 0, .slice none 0 0, .slice none 0 0, .slice none 0 0, .slice none 0 0]
abbrev l0IIIIS : Array Value := #[.int .i64 0, .int .i64 0, .int .i64 0, .int .i64 0, .slice none 0 0]
abbrev Qa9 : Array Value := #[.int .i64 0, .int .i64 0, .int .i64 0, .int .i64 0, .slice none 0 0, .slice none 0 0, .slice none 0 0, .slice none 0 0, .int .i64 0, .slice none 0 0, .slice none 0 0]
abbrev Qaq : Array Value := #[.int .i64 0, .int .i64 0, .int .i64 0, .int .i64 0, .slice none 0 0, .slice none 0 0, .slice none 0 0, .slice none 0 0, .int .i64 0, .slice none 0 0, .slice none 0 0, .int .i64 0, .int .i64 0, .int .i64 0, .int .i64 0, .int .i64 0, .int .i64 0, .int .i64 0, .slice none 0 0, .slice none 0 0, .slice none 0 0, .int .i64 0, .slice none 0 0, .slice none 0 0, .slice none 0 0, .int .i64 0, .slice none 0 0, .slice none 0 0, .slice none 0 0, .int .i64 0, .slice none 0 0]
abbrev Qck : Array Value := #[.int .i64 0, .int .i64 0, .int .i64 0, .int .i64 0, .string ⟨#[]⟩, .string ⟨#[]⟩, .int .i64 0, .int .i64 0]
abbrev l0IIS : Array Value := #[.int .i64 0, .int .i64 0, .slice none 0 0]
abbrev l0IITT : Array Value := #[.int .i64 0, .int .i64 0, .string ⟨#[]⟩, .string ⟨#[]⟩]
abbrev Qfn : Array Value := #[.int .i64 0, .slice none 0 0, .slice none 0 0, .slice none 0 0]
abbrev l0ITTII : Array Value := #[.int .i64 0, .string ⟨#[]⟩, .string ⟨#[]⟩, .int .i64 0, .int .i64 0]
abbrev Qay : Array Value := #[.slice none 0 0, .slice none 0 0, .slice none 0 0, .int .i64 0, .slice none 0 0, .slice none 0 0]
abbrev Qa4 (i0 : Int) (i1 : Int) (i2 : Int) : Array Value := #[.int .i64 i0, .int .i64 i1, .int .i64 i2]
abbrev Qag (i0 : Int) (i1 : Int) (i2 : Int) (i3 : Int) : Array Value := #[.int .i64 i0, .int .i64 i1, .int .i64 i2, .int .i64 i3]
abbrev Qaf (i0 : Int) (i1 : Int) (i2 : Int) (i3 : Int) (i4 : Int) (i5 : Int) (i6 : Int) (a7 : Option Addr) (n7 c7 : Nat) (b8 : Bool) (t9 : ByteArray) : Array Value := #[.int .i64 i0, .int .i64 i1, .int .i64 i2, .int .i64 i3, .int .i64 i4, .int .i64 i5, .int .i64 i6, .slice a7 n7 c7, .bool b8, .string t9]
abbrev Qav (i0 : Int) (i1 : Int) (i2 : Int) (i3 : Int) (i4 : Int) (i5 : Int) (i6 : Int) (t7 : ByteArray) (t8 : ByteArray) : Array Value := #[.int .i64 i0, .int .i64 i1, .int .i64 i2, .int .i64 i3, .int .i64 i4, .int .i64 i5, .int .i64 i6, .string t7, .string t8]
abbrev Qan (i0 : Int) (i1 : Int) (i2 : Int) (i3 : Int) (i4 : Int) (i5 : Int) (t6 : ByteArray) (t7 : ByteArray) : Array Value := #[.int .i64 i0, .int .i64 i1, .int .i64 i2, .int .i64 i3, .int .i64 i4, .int .i64 i5, .string t6, .string t7]
abbrev Qaa (i0 : Int) (i1 : Int) (i2 : Int) (i3 : Int) (i4 : Int) (a5 : Option Addr) (n5 c5 : Nat) (a6 : Option Addr) (n6 c6 : Nat) (a7 : Option Addr) (n7 c7 : Nat) (a8 : Option Addr) (n8 c8 : Nat) (i9 : Int) (a10 : Option Addr) (n10 c10 : Nat) (a11 : Option Addr) (n11 c11 : Nat) (i12 : Int) (a13 : Option Addr) (n13 c13 : Nat) (a14 : Option Addr) (n14 c14 : Nat) (a15 : Option Addr) (n15 c15 : Nat) (i16 : Int) (a17 : Option Addr) (n17 c17 : Nat) (a18 : Option Addr) (n18 c18 : Nat) (a19 : Option Addr) (n19 c19 : Nat) (i20 : Int) (a21 : Option Addr) (n21 c21 : Nat) (a22 : Option Addr) (n22 c22 : Nat) (a23 : Option Addr) (n23 c23 : Nat) (i24 : Int) (a25 : Option Addr) (n25 c25 : Nat) : Array Value := #[.int .i64 i0, .int .i64 i1, .int .i64 i2, .int .i64 i3, .int .i64 i4, .slice a5 n5 c5, .slice a6 n6 c6, .slice a7 n7 c7, .slice a8 n8 c8, .int .i64 i9, .slice a10 n10 c10, .slice a11 n11 c11, .int .i64 i12, .slice a13 n13 c13, .slice a14 n14 c14, .slice a15 n15 c15, .int .i64 i16, .slice a17 n17 c17, .slice a18 n18 c18, .slice a19 n19 c19, .int .i64 i20, .slice a21 n21 c21, .slice a22 n22 c22, .slice a23 n23 c23, .int .i64 i24, .slice a25 n25 c25]
abbrev Qai (i0 : Int) (i1 : Int) (i2 : Int) (i3 : Int) (i4 : Int) (a5 : Option Addr) (n5 c5 : Nat) (a6 : Option Addr) (n6 c6 : Nat) (a7 : Option Addr) (n7 c7 : Nat) (a8 : Option Addr) (n8 c8 : Nat) (a9 : Option Addr) (n9 c9 : Nat) (a10 : Option Addr) (n10 c10 : Nat) : Array Value := #[.int .i64 i0, .int .i64 i1, .int .i64 i2, .int .i64 i3, .int .i64 i4, .slice a5 n5 c5, .slice a6 n6 c6, .slice a7 n7 c7, .slice a8 n8 c8, .slice a9 n9 c9, .slice a10 n10 c10]
abbrev Qa6 (i0 : Int) (i1 : Int) (i2 : Int) (i3 : Int) (a4 : Option Addr) (n4 c4 : Nat) : Array Value := #[.int .i64 i0, .int .i64 i1, .int .i64 i2, .int .i64 i3, .slice a4 n4 c4]
abbrev Qad (i0 : Int) (i1 : Int) (i2 : Int) (i3 : Int) (a4 : Option Addr) (n4 c4 : Nat) (a5 : Option Addr) (n5 c5 : Nat) (a6 : Option Addr) (n6 c6 : Nat) (a7 : Option Addr) (n7 c7 : Nat) (i8 : Int) (a9 : Option Addr) (n9 c9 : Nat) (a10 : Option Addr) (n10 c10 : Nat) : Array Value := #[.int .i64 i0, .int .i64 i1, .int .i64 i2, .int .i64 i3, .slice a4 n4 c4, .slice a5 n5 c5, .slice a6 n6 c6, .slice a7 n7 c7, .int .i64 i8, .slice a9 n9 c9, .slice a10 n10 c10]
abbrev Qac (i0 : Int) (i1 : Int) (i2 : Int) (i3 : Int) (a4 : Option Addr) (n4 c4 : Nat) (a5 : Option Addr) (n5 c5 : Nat) (a6 : Option Addr) (n6 c6 : Nat) (a7 : Option Addr) (n7 c7 : Nat) (i8 : Int) (a9 : Option Addr) (n9 c9 : Nat) (a10 : Option Addr) (n10 c10 : Nat) (i11 : Int) (i12 : Int) (i13 : Int) (i14 : Int) (i15 : Int) (i16 : Int) (i17 : Int) (a18 : Option Addr) (n18 c18 : Nat) (a19 : Option Addr) (n19 c19 : Nat) (a20 : Option Addr) (n20 c20 : Nat) (i21 : Int) (a22 : Option Addr) (n22 c22 : Nat) (a23 : Option Addr) (n23 c23 : Nat) (a24 : Option Addr) (n24 c24 : Nat) (i25 : Int) (a26 : Option Addr) (n26 c26 : Nat) (a27 : Option Addr) (n27 c27 : Nat) (a28 : Option Addr) (n28 c28 : Nat) (i29 : Int) (a30 : Option Addr) (n30 c30 : Nat) : Array Value := #[.int .i64 i0, .int .i64 i1, .int .i64 i2, .int .i64 i3, .slice a4 n4 c4, .slice a5 n5 c5, .slice a6 n6 c6, .slice a7 n7 c7, .int .i64 i8, .slice a9 n9 c9, .slice a10 n10 c10, .int .i64 i11, .int .i64 i12, .int .i64 i13, .int .i64 i14, .int .i64 i15, .int .i64 i16, .int .i64 i17, .slice a18 n18 c18, .slice a19 n19 c19, .slice a20 n20 c20, .int .i64 i21, .slice a22 n22 c22, .slice a23 n23 c23, .slice a24 n24 c24, .int .i64 i25, .slice a26 n26 c26, .slice a27 n27 c27, .slice a28 n28 c28, .int .i64 i29, .slice a30 n30 c30]
abbrev Qao (i0 : Int) (i1 : Int) (i2 : Int) (i3 : Int) (t4 : ByteArray) (t5 : ByteArray) (i6 : Int) (i7 : Int) : Array Value := #[.int .i64 i0, .int .i64 i1, .int .i64 i2, .int .i64 i3, .string t4, .string t5, .int .i64 i6, .int .i64 i7]
abbrev Qap (i0 : Int) (i1 : Int) (a2 : Option Addr) (n2 c2 : Nat) : Array Value := #[.int .i64 i0, .int .i64 i1, .slice a2 n2 c2]
abbrev Qcr (i0 : Int) (i1 : Int) (t2 : ByteArray) (t3 : ByteArray) : Array Value := #[.int .i64 i0, .int .i64 i1, .string t2, .string t3]
abbrev Qa3 (i0 : Int) (a1 : Option Addr) (n1 c1 : Nat) (a2 : Option Addr) (n2 c2 : Nat) (a3 : Option Addr) (n3 c3 : Nat) : Array Value := #[.int .i64 i0, .slice a1 n1 c1, .slice a2 n2 c2, .slice a3 n3 c3]
abbrev Qbf (i0 : Int) (t1 : ByteArray) (t2 : ByteArray) (i3 : Int) (i4 : Int) : Array Value := #[.int .i64 i0, .string t1, .string t2, .int .i64 i3, .int .i64 i4]
abbrev Qae (a0 : Option Addr) (n0 c0 : Nat) (a1 : Option Addr) (n1 c1 : Nat) (a2 : Option Addr) (n2 c2 : Nat) (i3 : Int) (a4 : Option Addr) (n4 c4 : Nat) (a5 : Option Addr) (n5 c5 : Nat) : Array Value := #[.slice a0 n0 c0, .slice a1 n1 c1, .slice a2 n2 c2, .int .i64 i3, .slice a4 n4 c4, .slice a5 n5 c5]
abbrev Qf0 (t0 : ByteArray) (t1 : ByteArray) (t2 : ByteArray) (t3 : ByteArray) (t4 : ByteArray) (t5 : ByteArray) (t6 : ByteArray) (t7 : ByteArray) (t8 : ByteArray) (t9 : ByteArray) (t10 : ByteArray) : Array Value := #[.string t0, .string t1, .string t2, .string t3, .string t4, .string t5, .string t6, .string t7, .string t8, .string t9, .string t10]
end Go.Proofs.YtkmkldjipihceaaGreat
namespace Go.Proofs.YtkmkldjipihceaaGreat.Base
open ChangeShapes WideShapes ChangeAt RowKit
theorem Qax {W w1 : World} (hb : Below W.heap.size W w1) : (∀ b o, b < W.heap.size -> w1.cell? ⟨b, o, none⟩ = W.cell? ⟨b, o, none⟩) /\ (∀ b o, b < W.heap.size -> w1.frozen? ⟨b, o, none⟩ = W.frozen? ⟨b, o, none⟩) :=
 ⟨fun b o h => hb.cell (p := ⟨b, o, none⟩) h, fun b o h => hb.frozen (p := ⟨b, o, none⟩) h⟩
theorem via {B : Nat} {a b c : World} (k : Below b.heap.size b c) (hB : B <= b.heap.size) (h : Below B a b) : Below B a c := h.trans (k.mono hB)
theorem Qdd {H : Type} {enc : TypeId × Value -> H} {P : Program} (hl : laidOutB P = true) {W W' : World} (hb : Below W.heap.size W W') :
 ∀ (ts : List TypeId) (vs : List Value) (ds : List (DataW H)) (ps : List MemPlace), ts.all (fun t => P.readableRec t && decide (t < P.types.size)) = true ->
  DataW.TrodAll enc P W 0 (fun _ => true) true ts vs ds ps -> (∀ x ∈ ps, x.block < W.heap.size) ->
  DataW.TrodAll enc P W' 0 (fun b => decide (b < W.heap.size)) true ts vs ds ps
 | [], [], [], ps, _, h, _ => h
 | t :: ts, v :: vs, d :: ds, ps, hr, h, hlt => by
  obtain ⟨p, q, h1, h2, rfl⟩ := h
  simp only [List.all_cons, Bool.and_eq_true, decide_eq_true_eq] at hr
  refine ⟨p, q, Below.trod hl hr.1.1 hr.1.2 h1 hb (fun x hx => hlt x (by simp [hx])), ?_, rfl⟩
  exact Qdd hl hb ts vs ds q hr.2 h2 (fun x hx => hlt x (by simp [hx]))
 | [], _ :: _, _, _, _, h, _ => h.elim
 | [], [], _ :: _, _, _, h, _ => h.elim
 | _ :: _, [], _, _, _, h, _ => h.elim
 | _ :: _, _ :: _, [], _, _, h, _ => h.elim
theorem post_true {H : Type} {enc : TypeId × Value -> H} {P : Program} {f : Func} {s : ChangeSpec} {W W' : World} {args : Array Value} {ds gs : List (DataW H)} {before : List MemPlace} {tb : TypeId}
 (hl : laidOutB P = true) (hr : f.params.toList.all (fun t => P.readableRec t && decide (t < P.types.size)) = true)
 (hres : f.resultTypes = #[tb]) (hbool : P.underlying tb = some .bool) (hvars : s.vars = [])
 (hs : s.fn H (ds ++ gs) = { results := [.lit (.bool true)], args := ds })
 (hW : DataW.Whole enc P f.params.toList s.vars false W args.toList ds gs before) (hb : Below W.heap.size W W') :
 s.post enc P f false true false false W args (.bool true) W' := by
 have hW' := hW
 have hlt := hW.lt
 obtain ⟨p, q, hA, hV, rfl, _, _⟩ := hW
 refine ⟨ds, gs, p ++ q, [], p, [], hW', ?_, ?_, ?_, hb.frame _, fun h => by cases h⟩
 . rw [hs, hres]; exact trodAll_mk1 (shut_bool hbool true)
 . rw [hs]; exact Qdd hl hb _ _ _ _ hr hA (fun x hx => hlt x (by simp [hx]))
 . rw [hs, hvars]; rfl
end Go.Proofs.YtkmkldjipihceaaGreat.Base
namespace Go.Proofs.YtkmkldjipihceaaGreat.Items
open ChangeShapes WideShapes ChangeAt RowKit Base
def inB (x lo hi : Int) : Bool := decide (lo <= x /\ x <= hi)
theorem in_any (x lo hi : Int) (w : World) :
 Calls Tryz.prog 32 (Qa4 x lo hi) w fun e w' => e = .returned (.bool (inB x lo hi)) /\ w' = w := by
 by_cases h1 : lo <= x<;>by_cases h2 : x <= hi <;>
 . go_enter Tryz.func32, Tryz.ntmps32
   go_wp2
   go_ret
   exact ⟨by simp [inB, h1, h2], rfl⟩
def Qbd (x : Nat) : Bool := decide ((97 <= x /\ x <= 122) ∨ (48 <= x /\ x <= 57) ∨ x = 32)
theorem Qch (x : Nat) :
 ((97 : Int) <= x /\ (x : Int) <= 122 /\ Qbd x = true) ∨ ((97 : Int) <= x /\ ¬ (x : Int) <= 122 /\ (48 : Int) <= x /\ ¬ (x : Int) <= 57 /\ ((x : Int) == 32) = false /\ Qbd x = false) ∨
 (¬ (97 : Int) <= x /\ (48 : Int) <= x /\ (x : Int) <= 57 /\ Qbd x = true) ∨ (¬ (97 : Int) <= x /\ (48 : Int) <= x /\ ¬ (x : Int) <= 57 /\ ((x : Int) == 32) = false /\ Qbd x = false) ∨
 (¬ (97 : Int) <= x /\ ¬ (48 : Int) <= x /\ ((x : Int) == 32) = true /\ Qbd x = true) ∨ (¬ (97 : Int) <= x /\ ¬ (48 : Int) <= x /\ ((x : Int) == 32) = false /\ Qbd x = false) := by
 simp only [beq_eq_false_iff_ne, beq_iff_eq, ne_eq, Qbd, decide_eq_true_eq, decide_eq_false_iff_not]
 omega
def Qam (s : ByteArray) (i : Nat) : Bool := (s.data.toList.drop i).all (fun x => Qbd x.toNat)
def textB (s : ByteArray) : Bool := Qam s 0 && decide (s.size <= 30)
theorem Qca {s : ByteArray} {i : Nat} (h : s.size <= i) : Qam s i = true := by
 have : s.data.toList.drop i = [] := List.drop_eq_nil_of_le (by simpa using h)
 simp [Qam, this]
theorem Qbz {s : ByteArray} {i : Nat} (h : i < s.size) : Qam s i = (Qbd (s[i]'h).toNat && Qam s (i + 1)) := by
 have h' : i < s.data.toList.length := by simpa using h
 unfold Qam
 rw [List.drop_eq_getElem_cons h', List.all_cons]
 rfl
theorem specText_any (s : ByteArray) (hs : s.size <= 9223372036854775807) (w : World) :
 Calls Tryz.prog 82 #[.string s] w fun e w' => e = .returned (.bool (textB s)) /\ Below w.heap.size w w' := by
 go_enter Tryz.func82, Tryz.ntmps82
 go_wp2
 go_loopw [3] (fun i w' => ∃ n : Nat, i = .int .i64 (n : Int) /\ n <= s.size /\ Qam s n = Qam s 0 /\ Below w.heap.size w w') (fun i _ => s.size - (intOf i).toNat)
 case atStart => exact ⟨0, rfl, by omega, rfl, Below.refl _ _⟩
 case round =>
  obtain ⟨n, rfl, hn, hE, hb⟩ := hrel
  by_cases hlt : n < s.size
  . have hst := Qbz hlt
    rcases Qch s[n].toNat with ⟨h1, h2, hp⟩ | ⟨h1, h2, h3, h4, h5, hp⟩ | ⟨h1, h2, h3, hp⟩ | ⟨h1, h2, h3, h4, hp⟩ | ⟨h1, h2, h3, hp⟩ | ⟨h1, h2, h3, hp⟩
    . have hE' : Qam s (n + 1) = Qam s 0 := by rw [← hE, hst, hp]; rfl
      clear hE hst hp
      go_wp2
      exact ⟨⟨n + 1, by go_num, by omega, hE', hb⟩, by simp [intOf]; omega⟩
    . have hE' : textB s = false := by
       have h0 : Qam s 0 = false := by rw [← hE, hst, hp]; rfl
       simp [textB, h0]
      clear hE hst hp
      go_wp2
      go_ret
      exact ⟨by first | rfl | (rw [hE']; rfl), hb⟩
    . have hE' : Qam s (n + 1) = Qam s 0 := by rw [← hE, hst, hp]; rfl
      clear hE hst hp
      go_wp2
      exact ⟨⟨n + 1, by go_num, by omega, hE', hb⟩, by simp [intOf]; omega⟩
    . have hE' : textB s = false := by
       have h0 : Qam s 0 = false := by rw [← hE, hst, hp]; rfl
       simp [textB, h0]
      clear hE hst hp
      go_wp2
      go_ret
      exact ⟨by first | rfl | (rw [hE']; rfl), hb⟩
    . have hE' : Qam s (n + 1) = Qam s 0 := by rw [← hE, hst, hp]; rfl
      clear hE hst hp
      go_wp2
      exact ⟨⟨n + 1, by go_num, by omega, hE', hb⟩, by simp [intOf]; omega⟩
    . have hE' : textB s = false := by
       have h0 : Qam s 0 = false := by rw [← hE, hst, hp]; rfl
       simp [textB, h0]
      clear hE hst hp
      go_wp2
      go_ret
      exact ⟨by first | rfl | (rw [hE']; rfl), hb⟩
  . have hE' : Qam s 0 = true := by rw [← hE, Qca (by omega)]
    have hE2 : textB s = decide (s.size <= 30) := by simp [textB, hE']
    by_cases hl : (s.size : Int) <= 30
    . have : s.size <= 30 := by omega
      go_wp2
      go_ret
      exact ⟨by first | (rw [hE2]; simp [this]; done) | simp, hb⟩
    . have : ¬ s.size <= 30 := by omega
      go_wp2
      go_ret
      exact ⟨by first | (rw [hE2]; simp [this]; done) | simp, hb⟩
theorem within_any (x lo hi : Int) (w : World) :
 Calls Tryz.prog 89 (Qa4 x lo hi) w fun e w' => e = .returned (.bool (inB x lo hi)) /\ w' = w := by
 by_cases h1 : lo <= x<;>by_cases h2 : x <= hi <;>
 . go_enter Tryz.func89, Tryz.ntmps89
   go_wp2
   go_ret
   exact ⟨by simp [inB, h1, h2], rfl⟩
theorem Qcy (x : Nat) (w : World) :
 Calls Tryz.prog 129 #[.int .u8 (x : Int)] w fun e w' => e = .returned (.bool (Qbd x)) /\ w' = w := by
 rcases Qch x with ⟨h1, h2, hp⟩ | ⟨h1, h2, h3, h4, h5, hp⟩ | ⟨h1, h2, h3, hp⟩ | ⟨h1, h2, h3, h4, hp⟩ | ⟨h1, h2, h3, hp⟩ | ⟨h1, h2, h3, hp⟩ <;>
 . rw [hp]
   go_enter Tryz.func129, Tryz.ntmps129
   go_wp2
   go_ret
   exact ⟨rfl, rfl⟩
theorem implText_any (s : ByteArray) (hs : s.size <= 9223372036854775807) (w : World) :
 Calls Tryz.prog 99 #[.string s] w fun e w' => e = .returned (.bool (textB s)) /\ Below w.heap.size w w' := by
 by_cases hl : (s.size : Int) > 30
 . have e1 : textB s = false := by simp [textB]; omega
   rw [e1]
   go_enter Tryz.func99, Tryz.ntmps99
   go_wp2
   go_ret
   exact ⟨rfl, Below.refl _ _⟩
 . have e1 : textB s = Qam s 0 := by simp [textB]; omega
   rw [e1]
   go_enter Tryz.func99, Tryz.ntmps99
   go_wp2
   go_loopw [3] (fun i w' => ∃ n : Nat, i = .int .i64 (n : Int) /\ n <= s.size /\ Qam s n = Qam s 0 /\ Below w.heap.size w w') (fun i _ => s.size - (intOf i).toNat)
   case atStart => exact ⟨0, rfl, by omega, rfl, Below.refl _ _⟩
   case round =>
    obtain ⟨n, rfl, hn, hE, hb⟩ := hrel
    by_cases hlt : n < s.size
    . have hst := Qbz hlt
      cases hp : Qbd s[n].toNat
      . have hE' : Qam s 0 = false := by rw [← hE, hst, hp]; rfl
        clear hE hst
        go_wp2_with (go_at_call 129; refine (Qcy _ _).mono ?_; rintro e w' ⟨rfl, rfl⟩)
        go_ret
        exact ⟨by first | rfl | (rw [hE']; rfl), hb⟩
      . have hE' : Qam s (n + 1) = Qam s 0 := by rw [← hE, hst, hp]; rfl
        clear hE hst
        go_wp2_with (go_at_call 129; refine (Qcy _ _).mono ?_; rintro e w' ⟨rfl, rfl⟩)
        exact ⟨⟨n + 1, by go_num, by omega, hE', hb⟩, by simp [intOf]; omega⟩
    . have hE' : Qam s 0 = true := by rw [← hE, Qca (by omega)]
      go_wp2
      go_ret
      exact ⟨by first | rfl | (rw [hE']; rfl), hb⟩
end Go.Proofs.YtkmkldjipihceaaGreat.Items
namespace Go.Proofs.YtkmkldjipihceaaGreat.Gen
open ChangeShapes WideShapes ChangeAt RowKit Joins Deep Base
theorem via0 {a b c : World} (k : Below b.heap.size b c) (h : Below a.heap.size a b) : Below a.heap.size a c := h.trans (k.mono h.size)
theorem Qab {a b : World} (h : Below a.heap.size a b) (o : Obj) : Below a.heap.size a (b.alloc o) := h.alloc h.size o
theorem hidP {p : Prop} (h : p) : Hid p := h
theorem Qa5 {n : Nat} {a b : World} (h : Below n a b) {B i : Nat} (hn : n <= B) (v : Value) : Below n a (b.setCell ⟨B, i, none⟩ v) := h.setCell (p := ⟨B, i, none⟩) hn v
class Cel (α : Type) where
  k : Nat
  cs : α -> List Value
  len : ∀ x, (cs x).length = k
  one : ∀ x, ∀ u ∈ cs x, u.oneCell' = true
section
variable {α : Type} [Cel α]
def flat (l : List α) : List Value := l.flatMap Cel.cs
theorem Qb8 (l : List α) : (flat l).length = l.length * Cel.k α := by
 induction l with
 | nil => simp [flat]
 | cons a l ih => simp only [flat, List.flatMap_cons, List.length_append, List.length_cons] at ih ⊢; rw [ih, Cel.len, Nat.add_mul, Nat.one_mul, Nat.add_comm]
theorem Qco (l m : List α) : flat (l ++ m) = flat l ++ flat m := by simp [flat]
theorem Qd5 (x : α) : flat [x] = Cel.cs x := by simp [flat]
theorem Qek (x : α) (l : List α) : flat (x :: l) = Cel.cs x ++ flat l := by simp [flat]
theorem Qd6 (l : List α) : ∀ (i : Nat) (h : i < l.length) (f : Nat), f < Cel.k α -> (flat l)[i * Cel.k α + f]? = (Cel.cs l[i])[f]? := by
 induction l with
 | nil => intro i h; simp at h
 | cons a l ih =>
  intro i h f hf
  rw [Qek]
  cases i with
  | zero => rw [List.getElem?_append_left (by rw [Cel.len]; omega)]; simp
  | succ i =>
   rw [List.getElem?_append_right (by rw [Cel.len, Nat.add_mul]; omega), Cel.len]
   have e : (i + 1) * Cel.k α + f - Cel.k α = i * Cel.k α + f := by rw [Nat.add_mul]; omega
   rw [e, ih i (by simpa using h) f hf]; simp
def In (w : World) (b o : Nat) (l : List α) : Prop := w.rangeAt b o (flat l)
theorem In.cell {w : World} {b o : Nat} {l : List α} (h : In w b o l) (i : Nat) (hi : i < l.length) {f : Nat} {v : Value} (hv : (Cel.cs l[i])[f]? = some v) : w.cell? ⟨b, o + i * Cel.k α + f, none⟩ = some v := by
 have hf : f < Cel.k α := by have := (List.getElem?_eq_some_iff.1 hv).1; rwa [Cel.len] at this
 have := h (i * Cel.k α + f) v (by rw [Qd6 l i hi f hf]; exact hv)
 rwa [← Nat.add_assoc] at this
theorem In.below {w w' : World} {b o : Nat} {l : List α} (h : In w b o l) (hb : b < w.heap.size) (hw : Below w.heap.size w w') : In w' b o l :=
 fun j v hv => (hw.cell (p := ⟨b, o + j, none⟩) hb).trans (h j v hv)
theorem In.nil (w : World) (b o : Nat) : In w b o ([] : List α) := fun j v hv => by simp [flat] at hv
theorem In.set {w : World} {b o : Nat} {l : List α} (h : In w b o l) (p : Addr) (v : Value) (hp : p.block ≠ b) : In (w.setCell p v) b o l := fun j u hu => by
 rw [World.cell?_setCell_other (h := fun e => hp (by rw [e]))]; exact h j u hu
abbrev At (w : World) (A : Option Addr) (l : List α) : Prop := l = [] ∨ ∃ b o, A = some ⟨b, o, none⟩ /\ b < w.heap.size /\ In w b o l
theorem At.below {w w' : World} {A : Option Addr} {l : List α} (h : At w A l) (hw : Below w.heap.size w w') : At w' A l :=
 h.imp id fun ⟨b, o, e, hb, hi⟩ => ⟨b, o, e, Nat.lt_of_lt_of_le hb hw.size, hi.below hb hw⟩
theorem Qbw {w : World} {b o : Nat} {xs ys : List Value} (h1 : w.rangeAt b o xs) (h2 : w.rangeAt b (o + xs.length) ys) : w.rangeAt b o (xs ++ ys) := fun j v hv => by
 by_cases hj : j < xs.length
 . exact h1 j v (by rwa [List.getElem?_append_left hj] at hv)
 . rw [List.getElem?_append_right (by omega)] at hv
   have := h2 (j - xs.length) v hv
   have e : o + xs.length + (j - xs.length) = o + j := by omega
   rwa [e] at this
theorem Qdh {w w' : World} {b o : Nat} {cs : List Value} (h : w.rangeAt b o cs) (hb : b < w.heap.size) (hw : Below w.heap.size w w') : w'.rangeAt b o cs :=
 fun j v hv => (hw.cell (p := ⟨b, o + j, none⟩) hb).trans (h j v hv)
theorem Qaz {w w' : World} {b o n : Nat} (h : w.there b o n) (hb : b < w.heap.size) (hw : Below w.heap.size w w') : w'.there b o n := fun j hj => by
 rw [hw.cell (p := ⟨b, o + j, none⟩) hb, hw.frozen (p := ⟨b, o + j, none⟩) hb]
 exact h j hj
theorem Qaj {w : World} {b o n : Nat} (h : w.there b o n) (b' o' : Nat) (v : Value) : (w.setCell ⟨b', o', none⟩ v).there b o n := World.there_setCells h b' o' [v]
theorem Qah {w : World} {b o k m n f : Nat} (h : w.there b o (m * k)) (hn : n < m) (hf : f < k) : (∃ v, w.cell? ⟨b, o + n * k + f, none⟩ = some v) /\ w.frozen? ⟨b, o + n * k + f, none⟩ = false := by
 have hlt : n * k + f < m * k := by have : (n + 1) * k <= m * k := Nat.mul_le_mul_right k hn; rw [Nat.add_mul] at this; omega
 have := h (n * k + f) hlt
 rw [← Nat.add_assoc] at this
 exact ⟨Option.isSome_iff_exists.1 this.1, this.2⟩
theorem Qcb {w : World} {b : Nat} {l : List α} {n : Nat} (hin : In w b 0 (l.take n)) (hth : w.there b 0 (l.length * Cel.k α)) (hn : n < l.length) :
 In (w.setCells b (n * Cel.k α) (Cel.cs l[n])) b 0 (l.take (n + 1)) /\ (w.setCells b (n * Cel.k α) (Cel.cs l[n])).there b 0 (l.length * Cel.k α) := by
 have hlen : (flat (l.take n)).length = n * Cel.k α := by rw [Qb8, List.length_take, Nat.min_eq_left (by omega)]
 refine ⟨?_, World.there_setCells hth _ _ _⟩
 unfold In
 rw [List.take_succ_eq_append_getElem hn, Qco, Qd5]
 refine Qbw (World.rangeAt_setCells_apart hin _ _ _ (.inr (.inl (by rw [hlen]; omega)))) ?_
 rw [hlen, Nat.zero_add]
 refine World.rangeAt_setCells_same _ _ _ _ fun j hj => ?_
 have hj' : j < Cel.k α := by rwa [Cel.len] at hj
 have hlt : n * Cel.k α + j < l.length * Cel.k α := by have : (n + 1) * Cel.k α <= l.length * Cel.k α := Nat.mul_le_mul_right _ hn; rw [Nat.add_mul] at this; omega
 have := hth (n * Cel.k α + j) hlt
 rwa [Nat.zero_add] at this
end
structure Only (b : Nat) (w w' : World) : Prop where
  os : w'.os = w.os
  tape : w'.tape = w.tape
  output : w'.output = w.output
  size : w.heap.size <= w'.heap.size
  block : ∀ k, k < w.heap.size -> k ≠ b -> w'.heap[k]? = w.heap[k]?
theorem Only.refl (b : Nat) (w : World) : Only b w w := ⟨rfl, rfl, rfl, Nat.le_refl _, fun _ _ _ => rfl⟩
theorem Only.set {b : Nat} {w w1 : World} (h : Only b w w1) (o : Nat) (v : Value) : Only b w (w1.setCell ⟨b, o, none⟩ v) :=
 ⟨h.os, h.tape, h.output, by simpa using h.size, fun i hi hb => (Below.heap_setCell w1 ⟨b, o, none⟩ v i hb).trans (h.block i hi hb)⟩
theorem heap_new (w : World) (o : Obj) : (w.alloc o).heap[w.heap.size]? = some o := by
 show (w.heap.push o)[w.heap.size]? = some o
 simp
def Blk (W : World) (B : Nat) (t : TypeId) (vs : Array Value) : Prop := W.heap[B]? = some (.cells vs t (0, 0))
theorem Blk.lt {W : World} {B : Nat} {t : TypeId} {vs : Array Value} (h : Blk W B t vs) : B < W.heap.size := (Array.getElem?_eq_some_iff.1 h).1
theorem Blk.cell {W : World} {B : Nat} {t : TypeId} {vs : Array Value} (h : Blk W B t vs) {i : Nat} {v : Value} (hv : vs[i]? = some v) : W.cell? ⟨B, i, none⟩ = some v := by simp [World.cell?, show W.heap[B]? = _ from h, hv]
theorem Blk.new (W : World) (t : TypeId) (vs : Array Value) : Blk (W.alloc (.cells vs t)) W.heap.size t vs := heap_new W _
theorem Blk.kept {W W' : World} {row : Option Nat} {B : Nat} {t : TypeId} {vs : Array Value} (h : Blk W B t vs) (hg : W.grownBy W' row) (hne : some B ≠ row) : Blk W' B t vs := (hg.block B h.lt hne).trans h
theorem Blk.alloc {W : World} {B : Nat} {t : TypeId} {vs : Array Value} (h : Blk W B t vs) (o : Obj) : Blk (W.alloc o) B t vs := h.kept (World.grownBy_alloc W o none) (by simp)
theorem Blk.other {W : World} {B B' : Nat} {t : TypeId} {vs : Array Value} (h : Blk W B t vs) (hne : B ≠ B') (i : Nat) (u : Value) : Blk (W.setCell ⟨B', i, none⟩ u) B t vs :=
 (Below.heap_setCell W ⟨B', i, none⟩ u B hne).trans h
theorem Blk.below {W W' : World} {n : Nat} {B : Nat} {t : TypeId} {vs : Array Value} (h : Blk W B t vs) (hb : Below n W W') (hn : B < n) : Blk W' B t vs := (hb.block B hn).trans h
theorem Blk.thaw {W : World} {B : Nat} {t : TypeId} {vs : Array Value} (h : Blk W B t vs) (i : Nat) : W.frozen? ⟨B, i, none⟩ = false := by simp [World.frozen?, show W.heap[B]? = _ from h]
theorem Blk.setAt {W : World} {B : Nat} {t : TypeId} {vs : Array Value} (h : Blk W B t vs) (i : Nat) (v : Value) : Blk (W.setCell ⟨B, i, none⟩ v) B t (vs.setIfInBounds i v) := by
 obtain ⟨hlt, hk⟩ := Array.getElem?_eq_some_iff.1 h
 show (W.heap.modify B _)[B]? = _
 rw [Array.getElem?_eq_getElem (by rw [Array.size_modify]; exact hlt), Array.getElem_modify_self, hk]
 rfl
theorem Blk.drew {W : World} {B : Nat} {t : TypeId} {vs : Array Value} (h : Blk W B t vs) : Blk W.drew B t vs := h
theorem Blk.row3 {W : World} {B : Nat} {t : TypeId} {a b c : Value} (h : Blk W B t #[a, b, c]) : W.cell? ⟨B, 0, none⟩ = some a /\ W.cell? ⟨B, 1, none⟩ = some b /\ W.cell? ⟨B, 2, none⟩ = some c := ⟨h.cell (by rfl), h.cell (by rfl), h.cell (by rfl)⟩
theorem Blk.row4 {W : World} {B : Nat} {t : TypeId} {a b c d : Value} (h : Blk W B t #[a, b, c, d]) : W.cell? ⟨B, 0, none⟩ = some a /\ W.cell? ⟨B, 1, none⟩ = some b /\ W.cell? ⟨B, 2, none⟩ = some c /\ W.cell? ⟨B, 3, none⟩ = some d := ⟨h.cell (by rfl), h.cell (by rfl), h.cell (by rfl), h.cell (by rfl)⟩
theorem Blk.row5 {W : World} {B : Nat} {t : TypeId} {a b c d e : Value} (h : Blk W B t #[a, b, c, d, e]) : W.cell? ⟨B, 0, none⟩ = some a /\ W.cell? ⟨B, 1, none⟩ = some b /\ W.cell? ⟨B, 2, none⟩ = some c /\ W.cell? ⟨B, 3, none⟩ = some d /\ W.cell? ⟨B, 4, none⟩ = some e := ⟨h.cell (by rfl), h.cell (by rfl), h.cell (by rfl), h.cell (by rfl), h.cell (by rfl)⟩
section
variable {α : Type} [Cel α]
theorem Qbg {P : Program} {ts ti : TypeId} {z : Value} {k bytes : Nat} (hu : P.underlying ts = some (.slice ti)) (hinfo : (P.info? ti).map (fun i => (i.zero, i.size, i.bytes)) = some (some z, k, bytes)) (hby : bytes <= 1000) (n : Nat) (hn : n <= 1048576) (w : World) :
 (Instr.makeSlice ts (.int .i64 (n : Int)) (.int .i64 (n : Int))).run P w = .ok (.slice (some ⟨w.heap.size, 0, none⟩) n n) (w.alloc (.cells (madeCells z.cells (n * k)) ti)) := by
 obtain ⟨i0, hi, hz0, hz1, hz2⟩ := info_parts hinfo
 have hsum : bytes * n <= 281474976710656 := Nat.le_trans (Nat.mul_le_mul hby hn) (by omega)
 have r := run_make (P := P) w ts ti i0 z hu hi hz0 .i64 .i64 n n (by omega) (Int.le_refl _) (by rw [hz2, ← Int.natCast_mul]; omega) (by omega)
 rw [r, hz1]
 simp
theorem Qa0 (w : World) (cs : Array Value) (n k : Nat) (t : TypeId) : (w.alloc (.cells (madeCells cs (n * k)) t)).there w.heap.size 0 (n * k) := fun j hj => by
 have : j < (madeCells cs (n * k)).size := by rw [size_madeCells]; exact hj
 simp [this]
end
def I64 (x : Int) : Prop := -9223372036854775808 <= x /\ x <= 9223372036854775807
theorem Qa8 {x : Int} (hx : (Lit.int .i64 x).wf = true) : I64 x := by simpa [I64, Lit.wf, IntKind.min, IntKind.max, IntKind.signed, IntKind.bits] using hx
theorem Qbi {H : Type} {enc : TypeId × Value -> H} {P : Program} {w : World} {base : Nat} {spare : Nat -> Bool} {held : Bool} {t : TypeId} {fs : Array Field} {cs : List Value} {fuel : Nat} {x : DataW H × List MemPlace}
 (hs : P.underlying t = some (.struct fs)) (hone : oneCellFields P fs = true) (h : DataW.trod enc P w base spare held fuel t cs = some x) :
 ∃ n, ∀ (i : Nat) (f : Field), fs[i]? = some f -> ∀ c, cs[i]? = some c -> ∃ y, DataW.trod enc P w base spare held n f.type [c] = some y := by
 obtain ⟨xs, n, _, _, hl, hlen, hf⟩ := DataW.trod_struct hs h
 refine ⟨n, fun i f hi c hc => ?_⟩
 obtain ⟨o, k⟩ := hone_of hone i f hi
 have hlt : i < fs.size := (Array.getElem?_eq_some_iff.1 hi).1
 have g := hf i f hi
 rw [o, k] at g
 have e : cs.drop i = c :: cs.drop (i + 1) := by
  obtain ⟨h1, h2⟩ := List.getElem?_eq_some_iff.1 hc
  rw [List.drop_eq_getElem_cons h1, h2]
 rw [e] at g
 exact ⟨xs[i]'(by omega), by rw [← List.getElem?_eq_getElem]; simpa using g⟩
theorem Qdo {α : Type} [Cel α] (hk : 0 < Cel.k α) {W : World} {a : Addr} {len : Nat} {X : Nat -> α} {R : α -> Prop}
 (hX : ∀ i, i < len -> R (X i) /\ (a.add (i * Cel.k α)).spot = none /\ (a.add (i * Cel.k α)).block < W.heap.size /\ ∀ j v, (Cel.cs (X i))[j]? = some v -> W.cell? ⟨(a.add (i * Cel.k α)).block, (a.add (i * Cel.k α)).off + j, none⟩ = some v) :
 ∃ l : List α, l.length = len /\ (∀ x ∈ l, R x) /\ At W (some a) l := by
 refine ⟨(List.range len).map X, by simp, ?_, ?_⟩
 . intro x hxm
   obtain ⟨i, hi, rfl⟩ := List.mem_map.1 hxm
   exact (hX i (by simpa using hi)).1
 . by_cases h0 : len = 0
   . left; simp [h0]
   . right
     obtain ⟨_, hs, hb, _⟩ := hX 0 (by omega)
     rw [Nat.zero_mul, show a.add 0 = a from rfl] at hs hb
     obtain ⟨b, o, s⟩ := a
     simp only at hs hb
     subst hs
     refine ⟨b, o, rfl, hb, ?_⟩
     intro j v hv
     have hj : j < ((List.range len).map X).length * Cel.k α := by
      rw [← Qb8]; exact (List.getElem?_eq_some_iff.1 hv).1
     simp only [List.length_map, List.length_range] at hj
     have hd : j = j / Cel.k α * Cel.k α + j % Cel.k α := by rw [Nat.mul_comm]; exact (Nat.div_add_mod j _).symm
     have hq : j / Cel.k α < len := (Nat.div_lt_iff_lt_mul hk).2 hj
     have hr : j % Cel.k α < Cel.k α := Nat.mod_lt _ hk
     rw [hd, Qd6 _ (j / Cel.k α) (by simpa using hq) (j % Cel.k α) hr] at hv
     obtain ⟨_, _, _, hc⟩ := hX (j / Cel.k α) hq
     have := hc (j % Cel.k α) v (by simpa using hv)
     rw [Addr.add_mid] at this
     rw [hd, ← Nat.add_assoc]
     exact this
end Go.Proofs.YtkmkldjipihceaaGreat.Gen
