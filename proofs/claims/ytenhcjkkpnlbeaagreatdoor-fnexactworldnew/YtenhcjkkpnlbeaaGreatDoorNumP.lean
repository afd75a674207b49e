/-
  Numbers and texts as bytes, as lists alone: how a number is written, how it is read, and that the one is the other's way back. No condition.
-/
import Derived.Test.YtenhcjkkpnlbeaaGreatDoorBools
import Derived.WalkSmall
import Derived.Lib.EndianBits
set_option linter.unusedVariables false
set_option linter.unusedSimpArgs false
set_option maxRecDepth 100000
set_option maxHeartbeats 8000000
namespace Go.Proofs.YtenhcjkkpnlbeaaGreatDoor.Gen
def getD : Nat -> Nat -> Nat -> List UInt8 -> Option (Nat × Nat)
  | 0, _, _, _ => none
  | _ + 1, _, _, [] => none
  | f + 1, k, acc, d :: r =>
    if d.toNat < 128 then (if (0 < k /\ d.toNat = 0) ∨ 2147483647 < acc + d.toNat % 128 * 128 ^ k then none else some (acc + d.toNat % 128 * 128 ^ k, k + 1))
    else getD f (k + 1) (acc + d.toNat % 128 * 128 ^ k) r
def getN (l : List UInt8) (i : Int) : Option (Nat × Nat) := if 0 <= i then (getD 5 0 0 (l.drop i.toNat)).map fun x => (x.1, i.toNat + x.2) else none
theorem getD_le : ∀ (f k acc : Nat) (l : List UInt8) (n c : Nat), getD f k acc l = some (n, c) -> n <= 2147483647 /\ k < c /\ c - k <= l.length /\ c <= k + f := by
 intro f
 induction f with
 | zero => intro k acc l n c h; simp [getD] at h
 | succ f ih =>
  intro k acc l n c h
  cases l with
  | nil => simp [getD] at h
  | cons d r =>
   simp only [getD] at h
   split at h
   . split at h
     . cases h
     . rename_i h1
       simp only [Option.some.injEq, Prod.mk.injEq] at h
       obtain ⟨rfl, rfl⟩ := h
       simp only [List.length_cons]
       omega
   . obtain ⟨h1, h2, h3, h4⟩ := ih _ _ _ _ _ h
     simp only [List.length_cons]
     omega
theorem Qbw {l : List UInt8} {i : Int} {n c : Nat} (h : getN l i = some (n, c)) : n <= 2147483647 /\ 0 <= i /\ i < (c : Int) /\ c <= l.length /\ c <= i.toNat + 5 := by
 unfold getN at h
 split at h
 . rename_i hi
   cases hg : getD 5 0 0 (l.drop i.toNat) with
   | none => rw [hg] at h; cases h
   | some x =>
    obtain ⟨x1, x2⟩ := x
    rw [hg] at h
    simp only [Option.map_some, Option.some.injEq, Prod.mk.injEq] at h
    obtain ⟨rfl, rfl⟩ := h
    obtain ⟨h1, h2, h3, h4⟩ := getD_le _ _ _ _ _ _ hg
    simp only [List.length_drop] at h3
    omega
 . cases h
theorem Qlm {l : List UInt8} {i : Int} (h : (l.length : Int) <= i) : getN l i = none := by
 unfold getN
 split
 . rw [List.drop_eq_nil_of_le (by omega)]; rfl
 . rfl
theorem getD_next {l : List UInt8} {i k : Nat} (h : i + k < l.length) (f acc : Nat) :
 getD (f + 1) k acc (l.drop (i + k)) = if (l[i + k]).toNat < 128 then (if (0 < k /\ (l[i + k]).toNat = 0) ∨ 2147483647 < acc + (l[i + k]).toNat % 128 * 128 ^ k then none else some (acc + (l[i + k]).toNat % 128 * 128 ^ k, k + 1))
  else getD f (k + 1) (acc + (l[i + k]).toNat % 128 * 128 ^ k) (l.drop (i + (k + 1))) := by
 rw [List.drop_eq_getElem_cons h]
 rfl
theorem getD_past {l : List UInt8} {i k : Nat} (h : ¬ i + k < l.length) (f acc : Nat) : getD f k acc (l.drop (i + k)) = none := by
 rw [List.drop_eq_nil_of_le (by omega)]
 cases f<;>rfl
end Go.Proofs.YtenhcjkkpnlbeaaGreatDoor.Gen
namespace Go.Proofs.YtenhcjkkpnlbeaaGreatDoor.Gen
open ChangeShapes WideShapes ChangeAt RowKit Joins Deep Base
def rest (l : List UInt8) (i : Int) (k acc : Nat) : Option (Nat × Nat) := if 0 <= i then (getD (5 - k) k acc (l.drop (i.toNat + k))).map fun x => (x.1, i.toNat + x.2) else none
theorem rest_zero (l : List UInt8) (i : Int) : rest l i 0 0 = getN l i := rfl
theorem rest_neg {l : List UInt8} {i : Int} {k acc : Nat} (h : i < 0) : rest l i k acc = none := if_neg (by omega)
theorem rest_past {l : List UInt8} {i : Int} {k acc : Nat} (h : (l.length : Int) <= i + (k : Int)) : rest l i k acc = none := by
 unfold rest
 split
 . rw [getD_past (by omega)]; rfl
 . rfl
theorem rest_five {l : List UInt8} {i : Int} {acc : Nat} : rest l i 5 acc = none := by
 unfold rest
 split<;>rfl
theorem rest_step {l : List UInt8} {j k : Nat} (hk : k < 5) (acc : Nat) (h : j + k < l.length) :
 rest l (j : Int) k acc = if (l[j + k]).toNat < 128 then (if (0 < k /\ (l[j + k]).toNat = 0) ∨ 2147483647 < acc + (l[j + k]).toNat % 128 * 128 ^ k then none else some (acc + (l[j + k]).toNat % 128 * 128 ^ k, j + k + 1))
  else rest l (j : Int) (k + 1) (acc + (l[j + k]).toNat % 128 * 128 ^ k) := by
 unfold rest
 have hj : (0 : Int) <= (j : Int) := by omega
 simp only [hj, if_true]
 have e : 5 - k = (5 - (k + 1)) + 1 := by omega
 have e2 : (j : Int).toNat = j := by omega
 rw [e, e2, getD_next h]
 split
 . split
   . rfl
   . simp; omega
 . rfl
theorem Qf6 (n : Int) (h : -9223372036854775808 <= n /\ n <= 9223372036854775807) : wrap64 n = n := by unfold wrap64; omega
theorem or_join {k acc d : Nat} (hk : k < 5) (hacc : acc < 128 ^ k) (hd : d < 256) : bits .or .i64 (acc : Int) (wrap64 ((d : Int) % 128 * 2 ^ (7 * k))) = ((acc + d % 128 * 128 ^ k : Nat) : Int) := by
 have hw : ∀ n : Int, 0 <= n -> n < 2 ^ 62 -> IntKind.i64.wrap n = n := fun n h0 h1 => by
  have : IntKind.i64.wrap n = wrap64 n := by simp [go_sem, wrap64, IntKind.wrap_i64]
  rw [this]; exact Qf6 n (by omega)
 have hk' : k = 0 ∨ k = 1 ∨ k = 2 ∨ k = 3 ∨ k = 4 := by omega
 rcases hk' with rfl | rfl | rfl | rfl | rfl
 . rw [Qf6 _ (by omega), bits_join_low .i64 62 (by decide) hw 0 _ _ (by omega) (by omega) (by omega) (by omega) (by omega) (by omega)]; omega
 . rw [Qf6 _ (by omega), bits_join_low .i64 62 (by decide) hw 7 _ _ (by omega) (by omega) (by omega) (by omega) (by omega) (by omega)]; omega
 . rw [Qf6 _ (by omega), bits_join_low .i64 62 (by decide) hw 14 _ _ (by omega) (by omega) (by omega) (by omega) (by omega) (by omega)]; omega
 . rw [Qf6 _ (by omega), bits_join_low .i64 62 (by decide) hw 21 _ _ (by omega) (by omega) (by omega) (by omega) (by omega) (by omega)]; omega
 . rw [Qf6 _ (by omega), bits_join_low .i64 62 (by decide) hw 28 _ _ (by omega) (by omega) (by omega) (by omega) (by omega) (by omega)]; omega
theorem acc_next {k acc d : Nat} (hk : k < 5) (hacc : acc < 128 ^ k) (hd : d < 256) : acc + d % 128 * 128 ^ k < 128 ^ (k + 1) := by
 have hk' : k = 0 ∨ k = 1 ∨ k = 2 ∨ k = 3 ∨ k = 4 := by omega
 rcases hk' with rfl | rfl | rfl | rfl | rfl<;>omega
theorem acc_le {k acc : Nat} (hk : k <= 5) (hacc : acc < 128 ^ k) : acc < 34359738368 := by
 have hk' : k = 0 ∨ k = 1 ∨ k = 2 ∨ k = 3 ∨ k = 4 ∨ k = 5 := by omega
 rcases hk' with rfl | rfl | rfl | rfl | rfl | rfl<;>omega
end Go.Proofs.YtenhcjkkpnlbeaaGreatDoor.Gen
namespace Go.Proofs.YtenhcjkkpnlbeaaGreatDoor.Gen
open ChangeShapes WideShapes ChangeAt RowKit Joins Deep Base
structure Rd (W : World) (r : Nat) (A : Option Addr) (cap : Nat) (l : List UInt8) (i : Int) : Prop where
  box : Blk W r 267 #[.slice A l.length cap, .int .i64 i]
  src : l = [] ∨ ∃ b o, A = some ⟨b, o, none⟩ /\ b < W.heap.size /\ b ≠ r /\ In W b o l
  i64 : I64 i
theorem Rd.below {W W' : World} {r : Nat} {A : Option Addr} {cap : Nat} {l : List UInt8} {i : Int} (h : Rd W r A cap l i) (g : Below W.heap.size W W') : Rd W' r A cap l i :=
 ⟨h.box.below g h.box.lt, h.src.imp id fun ⟨b, o, e, hb, hn, hi⟩ => ⟨b, o, e, Nat.lt_of_lt_of_le hb g.size, hn, hi.below hb g⟩, h.i64⟩
theorem Rd.goto {W : World} {r : Nat} {A : Option Addr} {cap : Nat} {l : List UInt8} {i : Int} (h : Rd W r A cap l i) (j : Int) (hj : I64 j) : Rd (W.setCell ⟨r, 1, none⟩ (.int .i64 j)) r A cap l j :=
 ⟨h.box.setAt 1 _, h.src.imp id fun ⟨b, o, e, hb, hn, hi⟩ => ⟨b, o, e, by simpa using hb, hn, hi.set _ _ (fun e => hn e.symm)⟩, hj⟩
theorem Qdj {b : Nat} {a w : World} (h : Only b a w) (n : Nat) : Only b a (w.drewN n) := h.below (below_drewN (Below.refl _ _) n)
theorem Rd.drewN {W : World} {r : Nat} {A : Option Addr} {cap : Nat} {l : List UInt8} {i : Int} (h : Rd W r A cap l i) (n : Nat) : Rd (W.drewN n) r A cap l i := h.below (below_drewN (Below.refl _ _) n)
theorem next_any (r : Nat) (A : Option Addr) (cap : Nat) (l : List UInt8) (j : Nat) (hj : j < l.length) (hl : l.length <= 1048576) (w : World) (h : Rd w r A cap l (j : Int)) :
 Calls Tryz.prog 223 #[.pointer (some ⟨r, 0, none⟩)] w fun e w' => e = .returned (.int .i64 (l[j].toNat : Int)) /\ Only r w w' /\ Rd w' r A cap l ((j + 1 : Nat) : Int) := by
 obtain ⟨c0, c1⟩ := h.box.row2
 have f1 := h.box.thaw 1
 have q0 := h.box.lt
 obtain ⟨b, o, rfl, hbs, hne, hin⟩ : ∃ b o, A = some ⟨b, o, none⟩ /\ b < w.heap.size /\ b ≠ r /\ In w b o l := by
  rcases h.src with h | h
  . subst h; simp at hj
  . exact h
 have d0 := hin.getB j hj
 have hd2 : (l[j]).toNat < 256 := (l[j]).toNat_lt
 generalize (l[j]).toNat = d at *
 have HR := hidP h
 have hp1 : (0 : Int) <= (j : Int) := by omega
 have hp0 : decide ((j : Int) < 0) = false := by simp
 have hp3 : decide ((l.length : Int) <= (j : Int)) = false := by simp; omega
 have hp2 : (j : Int) < (l.length : Int) := by omega
 clear h hin
 go_enter Tryz.func223, Tryz.ntmps223
 go_wp2_with fail
 go_quiet (fail)
 go_wp2_with fail
 go_quiet (fail)
 go_wp2
 go_ret
 refine ⟨rfl, ?_, ?_⟩
 . exact (Qdj (Only.refl _ _) _).set _ _
 . exact (HR.out.drewN _).goto ((j + 1 : Nat) : Int) ⟨by omega, by omega⟩
theorem Qkq (r : Nat) (A : Option Addr) (cap : Nat) (l : List UInt8) (i : Int) (hj : ¬ (0 <= i /\ i < (l.length : Int))) (hl : l.length <= 1048576) (w : World) (h : Rd w r A cap l i) :
 Calls Tryz.prog 223 #[.pointer (some ⟨r, 0, none⟩)] w fun e w' => e = .panicked [{ v := .iface 9 (.string ⟨#[110, 111, 32, 110, 117, 109, 98, 101, 114]⟩), recovered := false }] /\ Only r w w' := by
 obtain ⟨c0, c1⟩ := h.box.row2
 have q0 := h.box.lt
 clear h
 by_cases h0 : i < 0
 . have hp0 : decide (i < 0) = true := by simpa using h0
   clear hj
   go_enter Tryz.func223, Tryz.ntmps223
   go_wp2_with fail
   go_quiet (fail)
   go_wp2
   exact ⟨rfl, rfl, Qdj (Only.refl _ _) _⟩
 . have hp0 : decide (i < 0) = false := by simp; omega
   have hp3 : decide ((l.length : Int) <= i) = true := by simp; omega
   clear hj h0
   go_enter Tryz.func223, Tryz.ntmps223
   go_wp2_with fail
   go_quiet (fail)
   go_wp2
   exact ⟨rfl, rfl, Qdj (Only.refl _ _) _⟩
def Qfw {α : Type} (R : α -> Value -> World -> Prop) (r : Nat) (A : Option Addr) (cap : Nat) (l : List UInt8) (w : World) (e : Ending) (w' : World) : Option (α × Nat) -> Prop
  | some (x, c) => Only r w w' /\ Rd w' r A cap l (c : Int) /\ ∃ v, e = .returned v /\ R x v w'
  | none => Only r w w' /\ ∃ t v, e = .panicked [{ v := .iface t v, recovered := false }]
def isNum (n : Nat) (v : Value) (_ : World) : Prop := v = .int .i64 (n : Int)
def isTxt (s : ByteArray) (v : Value) (_ : World) : Prop := v = .string s
theorem Qao {b : Nat} {w w1 w2 : World} (h : Only b w w1) (k : Only b w1 w2) : Only b w w2 :=
 ⟨k.os.trans h.os, k.tape.trans h.tape, k.output.trans h.output, Nat.le_trans h.size k.size, fun i hi hb => (k.block i (Nat.lt_of_lt_of_le hi h.size) hb).trans (h.block i hi hb)⟩
theorem sum_join {k acc d : Nat} (hk : k < 5) (hacc : acc < 128 ^ k) (hd : d < 256) : (acc : Int) + wrap64 ((d : Int) % 128 * 2 ^ (k * 7)) = ((acc + d % 128 * 128 ^ k : Nat) : Int) := by
 have hk' : k = 0 ∨ k = 1 ∨ k = 2 ∨ k = 3 ∨ k = 4 := by omega
 rcases hk' with rfl | rfl | rfl | rfl | rfl<;>rw [Qf6 _ (by omega)]<;>omega
theorem Qbe (r : Nat) (A : Option Addr) (cap : Nat) (l : List UInt8) (i : Int) (hl : l.length <= 1048576) (w : World) (h : Rd w r A cap l i) :
 Calls Tryz.prog 205 #[.pointer (some ⟨r, 0, none⟩)] w fun e w' => Qfw isNum r A cap l w e w' (getN l i) := by
 have HR := hidP h
 clear h
 go_enter Tryz.func205, Tryz.ntmps205
 go_wp2
 go_loopw [3, 6] (fun v3 v6 W => ∃ (k acc : Nat), v3 = .int .i64 (acc : Int) /\ v6 = .int .i64 (k : Int) /\ k <= 5 /\ Hid (acc < 128 ^ k) /\ Hid (Only r w W) /\ Hid (k = 0 ∨ 0 <= i) /\ Hid (Rd W r A cap l (i + (k : Int))) /\ Hid (getN l i = rest l i k acc)) (fun _ v6 _ => 5 - (intOf v6).toNat)
 case atStart => exact ⟨0, 0, rfl, rfl, by omega, by show 0 < 1; omega, Only.refl _ _, .inl rfl, by simpa using HR, rest_zero l i⟩
 case round =>
  obtain ⟨k, acc, rfl, rfl, hk, hacc, hO, hpos, hR, hrest⟩ := hrel
  by_cases h5 : k < 5
  . have h5' : (k : Int) < 5 := by omega
    by_cases hin : 0 <= i + (k : Int) /\ i + (k : Int) < (l.length : Int)
    . obtain ⟨j, rfl⟩ : ∃ j : Nat, i = (j : Int) := ⟨i.toNat, by rcases hpos.out with h | h<;>omega⟩
      have hp : j + k < l.length := by omega
      have hR' : Hid (Rd wr r A cap l ((j + k : Nat) : Int)) := hR
      have hst := hidP (rest_step h5 acc hp)
      have hd2 : (l[j + k]).toNat < 256 := (l[j + k]).toNat_lt
      clear hin
      go_wp2_with fail
      refine (next_any r A cap l (j + k) hp hl _ hR'.out).mono ?_
      rintro e w1 ⟨rfl, o1, r1⟩
      generalize (l[j + k]).toNat = d at *
      have hO1 := hidP (Qao hO.out o1)
      have hR1 : Hid (Rd w1 r A cap l ((j : Int) + ((k + 1 : Nat) : Int))) := by
       have e : (j : Int) + ((k + 1 : Nat) : Int) = ((j + k + 1 : Nat) : Int) := by omega
       show Rd _ _ _ _ _ _; rw [e]; exact r1
      have hor := sum_join h5 hacc.out hd2
      have hnx := hidP (acc_next h5 hacc.out hd2)
      have hn35 := acc_le (k := k + 1) (by omega) hnx.out
      have hal := acc_le hk hacc.out
      clear o1 r1 hR hR' hO
      generalize acc + d % 128 * 128 ^ k = N at *
      by_cases hd1 : d < 128
      . rw [if_pos hd1] at hst
        have hd128 : ¬ (128 : Int) <= (d : Int) := by omega
        by_cases hbad : (0 < k /\ d = 0) ∨ 2147483647 < N
        . rw [if_pos hbad] at hst
          have hN := hidP (hrest.out.trans hst.out)
          clear hst hrest
          by_cases hz : 0 < k /\ d = 0
          . obtain ⟨hz1, rfl⟩ := hz
            have hz2 : decide ((0 : Int) < (k : Int)) = true := by simp; omega
            have hz3 : (0 : Int) < (k : Int) := by omega
            go_wp2
            refine ⟨rfl, ?_⟩
            rw [hN.out]
            exact ⟨hO1.out, _, _, rfl⟩
          . have hN1 : 2147483647 < N := by omega
            have hN2 : (2147483647 : Int) < (N : Int) := by omega
            by_cases hd0 : d = 0
            . subst hd0
              obtain rfl : k = 0 := by omega
              have := hnx.out
              exfalso
              omega
            . have hd0' : ((d : Int) == 0) = false := by simp; omega
              go_wp2
              refine ⟨rfl, ?_⟩
              rw [hN.out]
              exact ⟨hO1.out, _, _, rfl⟩
        . rw [if_neg hbad] at hst
          have hN := hidP (hrest.out.trans hst.out)
          have hN1 : N <= 2147483647 := by omega
          have hN2 : ¬ ((2147483647 : Int) < (N : Int)) := by omega
          clear hst hrest
          by_cases hd0 : d = 0
          . subst hd0
            obtain rfl : k = 0 := by omega
            obtain rfl : acc = 0 := by have := hacc.out; omega
            obtain rfl : N = 0 := by rw [Qf6 _ (by simp)] at hor; simp at hor; omega
            clear hor
            go_wp2
            go_ret
            rw [hN.out]
            exact ⟨hO1.out, hR1.out, _, rfl, rfl⟩
          . have hd0' : ((d : Int) == 0) = false := by simp; omega
            go_wp2
            go_ret
            rw [hN.out]
            exact ⟨hO1.out, hR1.out, _, rfl, rfl⟩
      . rw [if_neg hd1] at hst
        have hN := hidP (hrest.out.trans hst.out)
        clear hst hrest
        go_wp2
        exact ⟨⟨k + 1, N, rfl, by go_num, by omega, hnx, hO1, hidP (.inr (by omega)), hR1, hN⟩, by simp [intOf]; omega⟩
    . have hN : Hid (getN l i = none) := by
       show _ = _
       rw [hrest.out]
       by_cases h0 : i < 0
       . exact rest_neg h0
       . exact rest_past (by omega)
      go_wp2_with fail
      refine (Qkq r A cap l _ hin hl _ hR.out).mono ?_
      rintro e w1 ⟨rfl, o1⟩
      refine ⟨rfl, ?_⟩
      rw [hN.out]
      exact ⟨Qao hO.out o1, _, _, rfl⟩
  . obtain rfl : k = 5 := by omega
    have hN := hidP (hrest.out.trans rest_five)
    go_wp2
    refine ⟨rfl, ?_⟩
    rw [hN.out]
    exact ⟨hO.out, _, _, rfl⟩
end Go.Proofs.YtenhcjkkpnlbeaaGreatDoor.Gen
namespace Go.Proofs.YtenhcjkkpnlbeaaGreatDoor.Gen
open ChangeShapes WideShapes ChangeAt RowKit Joins Deep Base
def getT (l : List UInt8) (i : Int) : Option (ByteArray × Nat) := match getN l i with
  | some (n, c) => if c + n <= l.length then some (⟨((l.drop c).take n).toArray⟩, c + n) else none
  | none => none
theorem Qd9 {l : List UInt8} {i : Int} {s : ByteArray} {c : Nat} (h : getT l i = some (s, c)) : 0 <= i /\ i < (c : Int) /\ c <= l.length /\ s.size <= l.length := by
 unfold getT at h
 split at h
 . rename_i n c' hg
   have := Qbw hg
   split at h
   . simp only [Option.some.injEq, Prod.mk.injEq] at h
     obtain ⟨rfl, rfl⟩ := h
     refine ⟨by omega, by omega, by omega, ?_⟩
     show ((l.drop c').take n).toArray.size <= _
     simp
     omega
   . cases h
 . cases h
theorem cut_txt {l : List UInt8} {b o cap c n : Nat} (hc : c + n <= l.length) (hcap : l.length <= cap) (hcm : cap <= 9223372036854775807) :
 ∃ a' : Addr, (∀ W : World, (Instr.slice 52 (.slice (some ⟨b, o, none⟩) l.length cap) (some (.int .i64 (c : Int))) (some (.int .i64 ((c : Int) + (n : Int)))) none).run Tryz.prog W = .ok (.slice (some a') n (cap - c)) W) /\
  ∀ W : World, In W b o l -> (convert 52 9 (.slice (some a') n (cap - c))).run Tryz.prog W = .ok (.string ⟨((l.drop c).take n).toArray⟩) W := by
 have hlen : ((l.drop c).take n).length = n := by simp; omega
 obtain ⟨i0, hi, hz0, hz1, hz2⟩ := info_parts infoB
 have hsz : ∀ W : World, (sizeOf 5).run Tryz.prog W = .ok 1 W := fun W => by simp [sizeOf, typeInfo, hi, hz1]
 have ht : ((c : Int) + (n : Int)).toNat - c = n := by omega
 by_cases he : cap = c
 . subst he
   obtain rfl : n = 0 := by omega
   refine ⟨⟨b, o, none⟩, fun W => ?_, fun W hA => ?_⟩
   . simp [Instr.slice, run_underlying Tryz.underlying52, Instr.sliceBounds, Instr.sliceBound, asIntOf, hsz]
   . have h := run_convert_bytes_back (P := Tryz.prog) W 52 9 5 ⟨b, o, none⟩ (cap - cap) [] Tryz.underlying52 Tryz.underlying5 Tryz.underlying9 (fun j hj => by simp at hj)
     simpa using h
 . refine ⟨⟨b, o + c, none⟩, fun W => ?_, fun W hA => ?_⟩
   . simp [Instr.slice, run_underlying Tryz.underlying52, Instr.sliceBounds, Instr.sliceBound, asIntOf, hsz, he]
     rw [if_pos ⟨by omega, by omega⟩, if_pos (by omega), ht, Addr.add_mid]
   . have h := run_convert_bytes_back (P := Tryz.prog) W 52 9 5 ⟨b, o + c, none⟩ (cap - c) ((l.drop c).take n) Tryz.underlying52 Tryz.underlying5 Tryz.underlying9 (fun j hj => by
      rw [Addr.add_mid]
      have hj' : j < n := by rwa [hlen] at hj
      have := hA.getB (c + j) (by omega)
      rw [← Nat.add_assoc] at this
      simpa using this)
     rwa [hlen] at h
theorem Qd5 (r : Nat) (A : Option Addr) (cap : Nat) (l : List UInt8) (i : Int) (hl : l.length <= 1048576) (hcap : l.length <= cap) (hcm : cap <= 9223372036854775807) (w : World) (h : Rd w r A cap l i) :
 Calls Tryz.prog 201 #[.pointer (some ⟨r, 0, none⟩)] w fun e w' => Qfw isTxt r A cap l w e w' (getT l i) := by
 have HR := hidP h
 clear h
 go_enter Tryz.func201, Tryz.ntmps201
 go_wp2_with fail
 refine (Qbe r A cap l i hl _ HR.out).mono ?_
 intro e w1 h1
 cases hg : getN l i with
 | none =>
  have hT : Hid (getT l i = none) := by show getT l i = none; unfold getT; rw [hg]
  rw [hg] at h1
  obtain ⟨o1, t, v, rfl⟩ := h1
  refine ⟨rfl, ?_⟩
  rw [hT.out]
  exact ⟨o1, t, v, rfl⟩
 | some x =>
  obtain ⟨n, c⟩ := x
  rw [hg] at h1
  obtain ⟨o1, r1, v, rfl, rfl⟩ := h1
  obtain ⟨g1, g2, g3, g4, g5⟩ := Qbw hg
  obtain ⟨c0, c1⟩ := r1.box.row2
  have f1 := r1.box.thaw 1
  have q0 := r1.box.lt
  have HR1 := hidP r1
  have HO1 := hidP o1
  obtain ⟨b, o, rfl, hbs, hne, hin⟩ : ∃ b o, A = some ⟨b, o, none⟩ /\ b < w1.heap.size /\ b ≠ r /\ In w1 b o l := by
   rcases r1.src with h | h
   . subst h; simp at g4; omega
   . exact h
  clear r1 o1
  by_cases hc : c + n <= l.length
  . have hT : Hid (getT l i = some (⟨((l.drop c).take n).toArray⟩, c + n)) := by show getT l i = _; unfold getT; rw [hg]; simp [hc]
    obtain ⟨a', hs, hv⟩ := cut_txt (b := b) (o := o) hc hcap hcm
    have hn1 : decide ((l.length : Int) - (c : Int) < (n : Int)) = false := by simp; omega
    have hn2 : ¬ ((l.length : Int) - (c : Int) < (n : Int)) := by omega
    have HV := hidP hv
    have HIn := hidP hin
    clear hin hv
    go_wp2_with fail
    go_quiet (fail)
    go_wp2_with fail
    have r2 := (HR1.out.drewN nq).goto ((c : Int) + (n : Int)) ⟨by omega, by omega⟩
    have o2 : Hid (Only r w ((w1.drewN nq).setCell ⟨r, 1, none⟩ (.int .i64 ((c : Int) + (n : Int))))) := (Qdj HO1.out nq).set _ _
    have hin2 : In ((w1.drewN nq).setCell ⟨r, 1, none⟩ (.int .i64 ((c : Int) + (n : Int)))) b o l := (HIn.out.below hbs (below_drewN (Below.refl _ _) nq)).set _ _ (fun e => hne e.symm)
    have hb2 : b < ((w1.drewN nq).setCell ⟨r, 1, none⟩ (.int .i64 ((c : Int) + (n : Int)))).heap.size := by simpa using hbs
    clear c0 c1 f1 q0 HIn HR1 HO1 hbs
    generalize (w1.drewN nq).setCell ⟨r, 1, none⟩ (.int .i64 ((c : Int) + (n : Int))) = W2 at *
    obtain ⟨c0, c1⟩ := r2.box.row2
    have q0 := r2.box.lt
    have hv2 : ∀ m, (convert 52 9 (.slice (some a') n (cap - c))).run Tryz.prog (W2.drewN m) = .ok (.string ⟨((l.drop c).take n).toArray⟩) (W2.drewN m) := fun m => HV.out _ (hin2.below hb2 (below_drewN (Below.refl _ _) m))
    have hv3 := HV.out _ hin2
    have HR2 := hidP r2
    clear r2 hin2 HV
    go_quiet (fail)
    go_wp2
    go_ret
    rw [hT.out]
    exact ⟨Qdj o2.out _, HR2.out.drewN _, _, rfl, rfl⟩
  . have hT : Hid (getT l i = none) := by show getT l i = none; unfold getT; rw [hg]; simp [hc]
    have hn1 : decide ((l.length : Int) - (c : Int) < (n : Int)) = true := by simp; omega
    have hn2 : ((l.length : Int) - (c : Int) < (n : Int)) := by omega
    go_wp2_with fail
    go_quiet (fail)
    go_wp2
    refine ⟨rfl, ?_⟩
    rw [hT.out]
    exact ⟨Qdj HO1.out _, _, _, rfl⟩
end Go.Proofs.YtenhcjkkpnlbeaaGreatDoor.Gen
namespace Go.Proofs.YtenhcjkkpnlbeaaGreatDoor.Gen
open ChangeShapes WideShapes ChangeAt RowKit Joins Deep Base
def nS (l : List UInt8) (o : Option Int) : Option (Nat × Nat) := o.bind (getN l)
def tS (l : List UInt8) (o : Option Int) : Option (ByteArray × Nat) := o.bind (getT l)
def nV (x : Option (Nat × Nat)) : Nat := (x.map Prod.fst).getD 0
def tV (x : Option (ByteArray × Nat)) : ByteArray := (x.map Prod.fst).getD ⟨#[]⟩
def nO {α : Type} (x : Option (α × Nat)) : Option Int := x.map fun p => (p.2 : Int)
end Go.Proofs.YtenhcjkkpnlbeaaGreatDoor.Gen
namespace Go.Proofs.YtenhcjkkpnlbeaaGreatDoor.Gen
open ChangeShapes WideShapes ChangeAt RowKit Joins Deep Base
structure Cm where
  who : Int
  seq : Int
  op : Int
  a : Int
  b : Int
  c : Int
  k : ByteArray
  t : ByteArray
def Cm.v (x : Cm) : Value := .agg (Qa4 x.who x.seq x.op x.a x.b x.c x.k x.t)
def isCm (x : Cm) (v : Value) (_ : World) : Prop := v = x.v
def q1 (l : List UInt8) (o : Option Int) := nS l o
def q2 (l : List UInt8) (o : Option Int) := nS l (nO (q1 l o))
def q3 (l : List UInt8) (o : Option Int) := nS l (nO (q2 l o))
def q4 (l : List UInt8) (o : Option Int) := nS l (nO (q3 l o))
def q5 (l : List UInt8) (o : Option Int) := nS l (nO (q4 l o))
def q6 (l : List UInt8) (o : Option Int) := nS l (nO (q5 l o))
def q7 (l : List UInt8) (o : Option Int) := tS l (nO (q6 l o))
def q8 (l : List UInt8) (o : Option Int) := tS l (nO (q7 l o))
def cmOf (l : List UInt8) (o : Option Int) : Cm := ⟨(nV (q1 l o) : Int) - 1, nV (q2 l o), nV (q3 l o), nV (q4 l o), nV (q5 l o), nV (q6 l o), tV (q7 l o), tV (q8 l o)⟩
def getC (l : List UInt8) (i : Int) : Option (Cm × Nat) := (q8 l (some i)).map fun p => (cmOf l (some i), p.2)
theorem tV_le (l : List UInt8) (o : Option Int) : (tV (tS l o)).size <= l.length := by
 unfold tV tS
 cases o with
 | none => simp [ByteArray.size]
 | some i =>
  cases h : getT l i with
  | none => simp [h, ByteArray.size]
  | some x => obtain ⟨n, c⟩ := x; simp [h]; exact (Qd9 h).2.2.2
theorem Qb0 {b B : Nat} {w w1 w2 : World} (h : Only b w w1) (k : Only B w1 w2) (hB : w.heap.size <= B) : Only b w w2 :=
 ⟨k.os.trans h.os, k.tape.trans h.tape, k.output.trans h.output, Nat.le_trans h.size k.size, fun i hi hb => (k.block i (Nat.lt_of_lt_of_le hi h.size) (by omega)).trans (h.block i hi hb)⟩
theorem Rd.far {W : World} {r : Nat} {A : Option Addr} {cap : Nat} {l : List UInt8} {i : Int} (h : Rd W r A cap l i) : r < W.heap.size /\ (l = [] ∨ ∀ c o, A = some ⟨c, o, none⟩ -> c < W.heap.size) := by
 refine ⟨h.box.lt, h.src.imp id fun ⟨b, o, e, hb, _⟩ c o' e' => ?_⟩
 rw [e] at e'
 cases e'
 exact hb
theorem Rd.apart {W W' : World} {r b : Nat} {A : Option Addr} {cap : Nat} {l : List UInt8} {i : Int} (h : Rd W r A cap l i) (g : Only b W W') (hr : r ≠ b) (hA : l = [] ∨ ∀ c o, A = some ⟨c, o, none⟩ -> c ≠ b) : Rd W' r A cap l i := by
 refine ⟨h.box.only g hr, ?_, h.i64⟩
 rcases hA with e | hA
 . exact .inl e
 . exact h.src.imp id fun ⟨c, o, e, hb, hn, hi⟩ => ⟨c, o, e, Nat.lt_of_lt_of_le hb g.size, hn, fun j v hv => (g.cell (p := ⟨c, o + j, none⟩) hb (hA c o e)).trans (hi j v hv)⟩
end Go.Proofs.YtenhcjkkpnlbeaaGreatDoor.Gen
