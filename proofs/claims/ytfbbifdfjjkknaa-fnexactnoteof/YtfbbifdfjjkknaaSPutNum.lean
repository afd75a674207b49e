/-
  The specification's PutNum: the number's bytes, in memory of their own. No condition.
-/
import Derived.Test.YtfbbifdfjjkknaaNumP
import Derived.Test.YtfbbifdfjjkknaaInB
namespace Go.Proofs.Ytfbbifdfjjkknaa.Gen
open Go.ChangeShapes Go.WideShapes Go.ChangeAt Go.RowKit Go.Joins Go.Deep Base
set_option linter.unusedVariables false

/-- One byte appended to an own list. -/
theorem append_b (B : Nat) (a : Option Addr) (c : Nat) (xs : List UInt8) (x : UInt8) (z : Int) (hz : (x.toNat : Int) = z) (W : World) (hB : B ≤ W.heap.size) (hv : W.ownsRow B 5 1 (.slice a xs.length c) xs.length (flat xs)) (hlen : xs.length ≤ 600000000) :
    ∃ a' c' W', (Builtin.append_ #[33, 33] 33 #[.slice a xs.length c, .slice (some ⟨W.heap.size, 0, none⟩) 1 1]).run Try.prog (W.alloc (.cells #[.int .u8 z] 5)) = .ok (.slice a' (xs.length + 1) c') W' ∧ W'.ownsRow B 5 1 (.slice a' (xs ++ [x]).length c') (xs ++ [x]).length (flat (xs ++ [x])) ∧
      (W.alloc (.cells #[.int .u8 z] 5)).grownBy W' (Value.slice a xs.length c).ownBlock ∧ ((Value.slice a' (xs.length + 1) c').ownBlock = (Value.slice a xs.length c).ownBlock ∨ (Value.slice a' (xs.length + 1) c').ownBlock = some (W.heap.size + 1)) := by
  subst hz
  obtain ⟨v', w3, hr, hown3, hgrow, hat⟩ := append_els8 B (.slice a xs.length c) xs [x] (some ⟨W.heap.size, 0, none⟩) 1 (W.alloc (.cells #[.int .u8 (x.toNat : Int)] 5)) (by simp; omega) (owns_alloc hv _) (one_b W x 5) (by simp; omega)
  obtain ⟨a', c', rfl, _⟩ := owns_form hown3
  refine ⟨a', c', w3, hr, ?_, hgrow, by simpa using hat⟩
  have e : (xs ++ [x]).length = xs.length + [x].length := by simp
  rw [e]
  exact hown3
theorem grown_below {B : Nat} {w W W' : World} {a : Option Addr} {n c k : Nat} {xs : List Value} {t : TypeId} (h : Below B w W) (hO : W.ownsRow B t k (.slice a n c) n xs) (o : Obj) (hB : B ≤ W.heap.size) (g : (W.alloc o).grownBy W' (Value.slice a n c).ownBlock) : Below B w W' :=
  (h.alloc hB o).grown g (by simp; omega) (fun j e => Nat.le_of_not_lt fun q => owns_far hO q e.symm)

set_option maxRecDepth 100000 in
set_option maxHeartbeats 1000000 in
theorem specPutNum_any (n : Int) (w : World) :
    Calls Try.prog 35 #[.int .i64 n] w fun e w' => ∃ a c, e = .returned (.slice a (numI n).length c) ∧ Below w.heap.size w w' ∧ w'.ownsRow w.heap.size 5 1 (.slice a (numI n).length c) (numI n).length (flat (numI n)) := by
  have own0 : Hid ((w.alloc (.cells #[] 5)).ownsRow w.heap.size 5 1 (.slice (some ⟨w.heap.size, 0, none⟩) 0 0) 0 []) := by
    refine ⟨by simp, .inr ⟨w.heap.size, 0, #[], rfl, Nat.le_refl _, Blk.new w 5 #[], by omega, by simp [maxLen], rfl, rfl⟩⟩
  by_cases hn : 0 ≤ n ∧ n ≤ 2147483647
  · obtain ⟨m0, rfl⟩ : ∃ m : Nat, n = (m : Int) := ⟨n.toNat, by omega⟩
    have hm0 : m0 ≤ 2147483647 := by omega
    rw [numI_nat hm0]
    have hin : inB (m0 : Int) 0 2147483647 = true := by simp [inB]; omega
    have hl0 := hidP (numB_le (n := m0) (by omega))
    clear hn
    go_enter Try.func35, Try.ntmps35
    go_wp2_with fail
    refine (in_any _ _ _ _).mono ?_
    rintro e w1 ⟨rfl, rfl⟩
    have B1 := alloc0 (Below.refl _ w) (.cells #[] 5)
    rw [hin]
    go_wp2
    go_loopw [0, 3] (fun x v W => ∃ (m : Nat) (xs : List UInt8) (a : Option Addr) (c : Nat), x = .int .i64 (m : Int) ∧ v = .slice a xs.length c ∧ m ≤ 2147483647 ∧ Hid (xs ++ numB m = numB m0) ∧ Hid (W.ownsRow w.heap.size 5 1 (.slice a xs.length c) xs.length (flat xs)) ∧ Below w.heap.size w W) (fun x _ _ => (intOf x).toNat)
    case atStart => exact ⟨m0, [], _, _, rfl, rfl, hm0, rfl, own0, B1⟩
    case round =>
      obtain ⟨m, xs, a, c, rfl, rfl, hm, hx, hO, hbl⟩ := hrel
      have hxl : xs.length ≤ 5 := by have h1 := congrArg List.length hx.out; have h2 := hl0.out; rw [List.length_append] at h1; omega
      by_cases hlt : m < 128
      · obtain ⟨a', c', W', hr, hO', hg, _⟩ := append_b w.heap.size a c xs (UInt8.ofNat m) (m : Int) (by rw [UInt8.toNat_ofNat']; omega) wr hbl.size hO.out (by omega)
        have HO := hidP hO'
        have HB := hidP (grown_below hbl hO.out _ hbl.size hg)
        have he : Hid (xs ++ [UInt8.ofNat m] = numB m0) := by show _ = _; rw [← hx.out, numB_small hlt]
        clear hO' hg hO
        go_wp2_with (at_builtin; refine wpList_append_is rfl _ _ _ rfl _ _ _ rfl rfl hr ?_)
        go_ret
        have hl : (numB m0).length = xs.length + 1 := by rw [← he.out]; simp
        refine ⟨a', c', by rw [hl]; rfl, HB.out, ?_⟩
        have := HO.out
        rwa [he.out] at this
      · have e8 : ((UInt8.ofNat (m % 128 + 128)).toNat : Int) = (m : Int) % 128 + 128 := by rw [UInt8.toNat_ofNat']; omega
        obtain ⟨a', c', W', hr, hO', hg, _⟩ := append_b w.heap.size a c xs (UInt8.ofNat (m % 128 + 128)) ((m : Int) % 128 + 128) e8 wr hbl.size hO.out (by omega)
        have HO := hidP hO'
        have HB := hidP (grown_below hbl hO.out _ hbl.size hg)
        have he : Hid (xs ++ [UInt8.ofNat (m % 128 + 128)] ++ numB (m / 128) = numB m0) := by show _ = _; rw [← hx.out, numB_big hlt]; simp
        clear hO' hg hO e8
        go_wp2_with (at_builtin; refine wpList_append_is rfl _ _ _ rfl _ _ _ rfl rfl hr ?_)
        refine ⟨⟨m / 128, xs ++ [UInt8.ofNat (m % 128 + 128)], a', c', ?_, by simp, by omega, he, HO, HB.out⟩, ?_⟩
        · show Value.int .i64 _ = Value.int .i64 _
          congr 1
        · simp [intOf]; omega
  · have hin : inB n 0 2147483647 = false := by simp [inB]; omega
    have hN : Hid (numI n = []) := by show _ = _; unfold numI; rw [if_neg hn]
    clear hn
    go_enter Try.func35, Try.ntmps35
    go_wp2_with fail
    refine (in_any _ _ _ _).mono ?_
    rintro e w1 ⟨rfl, rfl⟩
    have B1 := alloc0 (Below.refl _ w) (.cells #[] 5)
    rw [hin]
    go_wp2
    go_ret
    refine ⟨_, _, by rw [hN.out]; rfl, B1, ?_⟩
    rw [hN.out]
    exact own0.out
end Go.Proofs.Ytfbbifdfjjkknaa.Gen
