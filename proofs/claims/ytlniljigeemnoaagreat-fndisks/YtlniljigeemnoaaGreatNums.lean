/-
  Numbers one behind the other, as the specification and as the program's writer lay them. Condition: at most 300000.
-/
import Derived.Test.YtlniljigeemnoaaGreatAnsList
import Derived.WalkSmall
set_option linter.unusedVariables false
set_option linter.unusedSimpArgs false
set_option maxRecDepth 100000
set_option maxHeartbeats 8000000
namespace Go.Proofs.YtlniljigeemnoaaGreat.Gen
open ChangeShapes WideShapes ChangeAt RowKit Joins Deep Base
def Qbh (L : List Int) : List UInt8 := L.flatMap numI
theorem numsB_cons (x : Int) (L : List Int) : Qbh (x :: L) = numI x ++ Qbh L := by simp [Qbh]
theorem Qhf (L M : List Int) : Qbh (L ++ M) = Qbh L ++ Qbh M := by simp [Qbh]
theorem numsB_take {L : List Int} {n : Nat} (h : n < L.length) : Qbh (L.take (n + 1)) = Qbh (L.take n) ++ numI L[n] := by
 rw [List.take_succ_eq_append_getElem h, Qhf]
 simp [Qbh]
theorem Qb3 (L : List Int) : (Qbh L).length <= 5 * L.length := by
 induction L with
 | nil => simp [Qbh]
 | cons x L ih => rw [numsB_cons, List.length_append, List.length_cons]; have := Qbc x; omega
theorem Qdu {B : Nat} {a a' : Option Addr} {c c' : Nat} {xs ys : List UInt8} {W : World} (hB : B <= W.heap.size) (hv : W.ownsRow B 5 1 (.slice a xs.length c) xs.length (flat xs)) (hy : At W a' ys) (hlen : xs.length + ys.length <= 1000000000) :
 ∃ a2 c2 W', (Builtin.append_ #[22, 22] 22 #[.slice a xs.length c, .slice a' ys.length c']).run Tryz.prog W = .ok (.slice a2 (xs ++ ys).length c2) W' /\
  W'.ownsRow B 5 1 (.slice a2 (xs ++ ys).length c2) (xs ++ ys).length (flat (xs ++ ys)) /\ W.grownBy W' (Value.slice a xs.length c).ownBlock := by
 obtain ⟨v', W', hr, hown, hg, _⟩ := Qbr B (.slice a xs.length c) xs ys a' c' W hB hv hy hlen
 obtain ⟨a2, c2, rfl, _⟩ := Qao hown
 have e : (xs ++ ys).length = xs.length + ys.length := by simp
 exact ⟨a2, c2, W', by rw [e]; exact hr, by rw [e]; exact hown, hg⟩
theorem Qbk (A : Option Addr) (cap : Nat) (L : List Int) (hL : L.length <= 300000) (w : World) (hA : At w A L) :
 Calls Tryz.prog 68 #[.slice A L.length cap] w fun e w' => ∃ a c, e = .returned (.slice a (Qbh L).length c) /\ Below w.heap.size w w' /\ w'.ownsRow w.heap.size 5 1 (.slice a (Qbh L).length c) (Qbh L).length (flat (Qbh L)) := by
 have own0 : Hid ((w.alloc (.cells #[] 5)).ownsRow w.heap.size 5 1 (.slice (some ⟨w.heap.size, 0, none⟩) 0 0) 0 []) := by
  refine ⟨by simp, .inr ⟨w.heap.size, 0, #[], rfl, Nat.le_refl _, Blk.new w 5 #[], by omega, by simp [maxLen], rfl, rfl⟩⟩
 have HA := hidP hA
 clear hA
 go_enter Tryz.func68, Tryz.ntmps68
 go_wp2
 go_loopw [3, 4] (fun v i W => ∃ (n : Nat) (a : Option Addr) (c : Nat), i = .int .i64 (n : Int) /\ v = .slice a (Qbh (L.take n)).length c /\ n <= L.length /\ Hid (W.ownsRow w.heap.size 5 1 (.slice a (Qbh (L.take n)).length c) (Qbh (L.take n)).length (flat (Qbh (L.take n)))) /\ Below w.heap.size w W) (fun _ i _ => L.length - (intOf i).toNat)
 case atStart => exact ⟨0, _, _, rfl, rfl, by omega, own0, Qaf (Below.refl _ w) _⟩
 case round =>
  obtain ⟨n, a, c, rfl, rfl, hn, hO, hbl⟩ := hrel
  by_cases hlt : n < L.length
  . obtain ⟨b, o, rfl, hbs, hin⟩ : ∃ b o, A = some ⟨b, o, none⟩ /\ b < w.heap.size /\ In w b o L := by
     rcases HA.out with h | h
     . subst h; simp at hlt
     . exact h
    have c0 := (hin.below hbs hbl).getInt n hlt
    have hi0 : (0 : Int) <= (n : Int) := by omega
    have hi1 : (n : Int) < (L.length : Int) := by omega
    have hto := hidP (numsB_take hlt)
    have hle : Hid ((Qbh (L.take n)).length <= 1500000) := by have := Qb3 (L.take n); rw [List.length_take] at this; exact hidP (by omega)
    generalize Qbh (L.take n) = xs at *
    generalize L[n] = x at *
    clear hin
    go_wp2_with fail
    refine (Qa1 x _).mono ?_
    rintro e w1 ⟨a1, c1, rfl, g1, o1⟩
    obtain ⟨a2, c2, w2, hr, hown, hg⟩ := Qdu (c' := c1) (Nat.le_trans hbl.size g1.size) (Qaq hO.out g1) (Qa6 o1).at (by have := hle.out; have := Qbc x; omega)
    have HB := hidP ((via0 g1 hbl).grown hg (via0 g1 hbl).size (fun j e => Nat.le_of_not_lt fun q => Qay (Qaq hO.out g1) q e.symm))
    have HO := hidP hown
    clear hown hg o1 g1 hO hbl
    go_wp2_with (at_builtin; refine Qae rfl _ _ _ rfl _ _ _ rfl rfl hr ?_)
    refine ⟨⟨n + 1, a2, c2, by go_num, by rw [hto.out, List.length_append], by omega, ?_, HB.out⟩, by simp [intOf]; omega⟩
    show Hid _
    rw [hto.out]
    exact HO
  . obtain rfl : n = L.length := by omega
    rw [List.take_length] at hO
    rw [List.take_length]
    go_wp2
    go_ret
    exact ⟨a, c, rfl, hbl, hO.out⟩
end Go.Proofs.YtlniljigeemnoaaGreat.Gen
