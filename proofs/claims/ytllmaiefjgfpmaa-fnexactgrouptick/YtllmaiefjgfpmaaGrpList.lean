/-
  The program's member sets at this seat: their clients and Beats told. No condition but that there are at most 1048576.
-/
import Derived.Test.YtllmaiefjgfpmaaGrpSet
namespace Go.Proofs.Ytllmaiefjgfpmaa.Gen
open Go.ChangeShapes Go.WideShapes Go.ChangeAt Go.RowKit Go.Joins Go.Deep Base
set_option linter.unusedVariables false
set_option linter.unusedSimpArgs false

/-- One number in a block of its own. -/
theorem one_at (W : World) (x : Int) (t : TypeId) : At (W.alloc (.cells #[.int .i64 x] t)) (some ⟨W.heap.size, 0, none⟩) [x] :=
  .inr ⟨W.heap.size, 0, rfl, by simp, fun j v hv => (Blk.new W t #[.int .i64 x]).cell (i := 0 + j) (by simpa [flat, Cel.cs] using hv)⟩

set_option maxRecDepth 100000 in
set_option maxHeartbeats 1000000 in
theorem clients_any (Bs : Nat) (A : Option Addr) (cap : Nat) (vN : Value) (L : List Mb) (hl : L.length ≤ 1048576) (w : World) (hb : Blk w Bs 84 #[.slice A L.length cap, vN]) (hA : At w A L) :
    Calls Try.prog 57 #[.pointer (some ⟨Bs, 0, none⟩)] w fun e w' => ∃ v, e = .returned v ∧ w'.ownsRow w.heap.size 3 1 v L.length (flat (L.map Mb.who)) ∧ Below w.heap.size w w' := by
  have HA := hidP hA
  obtain ⟨u0, u1⟩ := hb.row2
  have q0 := hb.lt
  clear hA
  go_enter Try.func57, Try.ntmps57
  go_wp2
  go_loopw [3, 11] (fun v i W => ∃ (n : Nat) (a : Option Addr) (c : Nat), i = .int .i64 (n : Int) ∧ v = .slice a n c ∧ n ≤ L.length ∧ Hid (W.ownsRow w.heap.size 3 1 (.slice a n c) n (flat ((L.take n).map Mb.who))) ∧ Below w.heap.size w W) (fun _ i _ => L.length - (intOf i).toNat)
  case atStart => exact ⟨0, none, 0, rfl, rfl, by omega, World.ownsRow_nil _ _ _ _, Below.refl _ _⟩
  case round =>
    obtain ⟨n, a, c, rfl, rfl, hn, hO, hbl⟩ := hrel
    by_cases hlt : n < L.length
    · obtain ⟨b, o, rfl, hbs, hin⟩ : ∃ b o, A = some ⟨b, o, none⟩ ∧ b < w.heap.size ∧ In w b o L := by
        rcases HA.out with h | h
        · subst h; simp at hlt
        · exact h
      obtain ⟨c0, c1, c2⟩ := (hin.below hbs hbl).getMb n hlt
      have hi0 : (0 : Int) ≤ (n : Int) := by omega
      have hi1 : (n : Int) < (L.length : Int) := by omega
      have hln : ((L.take n).map Mb.who).length = n := by simp; omega
      have hB2 : w.heap.size ≤ ((wr.alloc (.cells #[.int .i64 L[n].who, .int .i64 L[n].beat, .bool L[n].has] 59)).alloc (.cells #[.int .i64 L[n].who] 3)).heap.size := by have := hbl.size; simp; omega
      have hO2 := owns_alloc (owns_alloc hO.out (.cells #[.int .i64 L[n].who, .int .i64 L[n].beat, .bool L[n].has] 59)) (.cells #[.int .i64 L[n].who] 3)
      have hA2 := one_at (wr.alloc (.cells #[.int .i64 L[n].who, .int .i64 L[n].beat, .bool L[n].has] 59)) L[n].who 3
      obtain ⟨v', w3, hr, hown3, hgrow, hat⟩ := append_els (P := Try.prog) Try.underlying22 infoInt rfl (by decide) (by decide) w.heap.size (.slice a n c) ((L.take n).map Mb.who) [L[n].who] (some ⟨(wr.alloc (.cells #[.int .i64 L[n].who, .int .i64 L[n].beat, .bool L[n].has] 59)).heap.size, 0, none⟩) 1 ((wr.alloc (.cells #[.int .i64 L[n].who, .int .i64 L[n].beat, .bool L[n].has] 59)).alloc (.cells #[.int .i64 L[n].who] 3)) hB2 (by rw [hln]; exact hO2) hA2 (by rw [hln]; simp; omega)
      rw [hln] at hown3
      simp only [List.length_cons, List.length_nil, Nat.zero_add] at hown3 hr
      have hto : (L.take n).map Mb.who ++ [L[n].who] = (L.take (n + 1)).map Mb.who := by rw [List.take_succ_eq_append_getElem hlt, List.map_append]; rfl
      rw [hto] at hown3
      obtain ⟨a', c', rfl, _⟩ := owns_form hown3
      have HO3 := hidP hown3
      have HB3 : Hid (Below w.heap.size w w3) := (alloc0 (alloc0 hbl _) _).grown hgrow (alloc0 (alloc0 hbl _) _).size (fun k e => Nat.le_of_not_lt fun h => owns_far hO.out (show k < w.heap.size by omega) e.symm)
      clear hown3 hgrow hat hO2 hA2 hB2 hto hln
      rw [World.size_alloc] at hr
      go_wp2_with (at_builtin; refine wpList_append_is rfl _ _ _ rfl _ _ _ rfl rfl hr ?_)
      exact ⟨⟨n + 1, a', c', by go_num, rfl, by omega, HO3, HB3.out⟩, by simp [intOf]; omega⟩
    · obtain rfl : n = L.length := by omega
      go_wp2
      go_ret
      refine ⟨_, rfl, ?_, hbl⟩
      have := hO.out
      rwa [List.take_length] at this

/-- 'append(x, make([]int, 0)...)' is x. -/
theorem append_make0 {P : Program} (ts ti te : TypeId) (i : TypeInfo) (hts : P.underlying ts = some (.slice te)) (hti : P.underlying ti = some (.int .i64)) (hi : P.info? te = some i) (a : Option Addr) (n c : Nat) (hle : n ≤ c) (w : World) :
    (Builtin.append_ #[ts, ti] ts #[.slice a n c, .int .i64 0]).run P w = .ok (.slice a n c) w := by
  cases a <;> simp [Builtin.append_, run_underlying hts, run_underlying hti, sizeOf, typeInfo, hi, asInt, asIntOf, IntKind.wrap_i64, hle, storeCells]
theorem wpList_append2_is {P : Program} {w w' : World} {ops : Array Oper} {rest : List Oper} {o : Oper} {a : Act} {Q : Exit → Act → World → Prop} (hgd : o.guard = none) (s x : Operand) (t u : TypeId)
    (ho : o.op = .call { callee := .builtin .append, args := #[s, x], argTypes := #[t, u] }) (v xv r : Value) (hs : a.eval s = v) (hx : a.eval x = xv)
    (hr : (Builtin.append_ #[t, u] o.type #[v, xv]).run P w = .ok r w') (h : wpList P ops Q rest (a.put o.dst r) w') : wpList P ops Q (o :: rest) a w := by
  refine wpList_plain hgd fun _ hK => ?_
  unfold Oper.wp execOp
  simp only [ho, resolve, invoke, builtin, Sem.run_bind, Sem.run_pure, Result.andThen_ok, List.map_toArray, List.map_cons, List.map_nil, hs, hx, hr]
  exact hK _ _ h

/-- Who has a Beat stands ahead of all that have none. -/
def hasFirst (L : List Mb) : Prop := ∀ (i j : Nat) (hi : i < L.length) (hj : j < L.length), j ≤ i → L[i].has = true → L[j].has = true
theorem hasFirst_take {L : List Mb} (h : hasFirst L) {n : Nat} (hn : n < L.length) (hh : L[n].has = true) : (L.take n).filter Mb.has = L.take n := by
  rw [List.filter_eq_self]
  intro x hx
  obtain ⟨j, hj, rfl⟩ := List.mem_iff_getElem.1 hx
  have hj' : j < n := by simp at hj; omega
  rw [List.getElem_take]
  exact h n j hn (by omega) (by omega) hh
def beatsF (L : List Mb) : List Int := (L.filter Mb.has).map Mb.beat
theorem beatsF_yes {L : List Mb} {n : Nat} (hn : n < L.length) (hh : L[n].has = true) : beatsF (L.take (n + 1)) = beatsF (L.take n) ++ [L[n].beat] := by
  unfold beatsF
  rw [List.take_succ_eq_append_getElem hn, List.filter_append, List.map_append]
  simp [hh]
theorem beatsF_no {L : List Mb} {n : Nat} (hn : n < L.length) (hh : L[n].has = false) : beatsF (L.take (n + 1)) = beatsF (L.take n) := by
  unfold beatsF
  rw [List.take_succ_eq_append_getElem hn, List.filter_append, List.map_append]
  simp [hh]
theorem beatsF_le (L : List Mb) : (beatsF L).length ≤ L.length := by unfold beatsF; rw [List.length_map]; exact List.length_filter_le _ _

set_option maxRecDepth 100000 in
set_option maxHeartbeats 1000000 in
theorem beats_any (Bs : Nat) (A AN : Option Addr) (cap capN : Nat) (L : List Mb) (N : List Int) (hl : L.length ≤ 1048576) (hN : N.length ≤ 1048576) (hf : hasFirst L) (w : World) (hb : Blk w Bs 84 #[.slice A L.length cap, .slice AN N.length capN]) (hA : At w A L) (hAN : At w AN N) :
    Calls Try.prog 58 #[.pointer (some ⟨Bs, 0, none⟩)] w fun e w' => ∃ v, e = .returned v ∧ w'.ownsRow w.heap.size 3 1 v (beatsF L ++ N).length (flat (beatsF L ++ N)) ∧ Below w.heap.size w w' := by
  have HA := hidP hA
  have HN := hidP hAN
  have Hf := hidP hf
  have Hb := hidP hb
  obtain ⟨i0, hi, hz0, hz1, hz2⟩ := info_parts (infoInt)
  obtain ⟨u0, u1⟩ := hb.row2
  have q0 := hb.lt
  clear hA hAN hf hb
  go_enter Try.func58, Try.ntmps58
  go_wp2
  go_loopw [3, 11] (fun v i W => ∃ (n k : Nat) (a : Option Addr) (c : Nat), i = .int .i64 (n : Int) ∧ v = .slice a k c ∧ n ≤ L.length ∧ k ≤ n ∧ k ≤ c ∧ Hid (k = (beatsF (L.take n)).length) ∧ Hid (W.ownsRow w.heap.size 3 1 (.slice a k c) k (flat (beatsF (L.take n)))) ∧ Below w.heap.size w W) (fun _ i _ => L.length - (intOf i).toNat)
  case atStart => exact ⟨0, 0, none, 0, rfl, rfl, by omega, by omega, by omega, rfl, World.ownsRow_nil _ _ _ _, Below.refl _ _⟩
  case round =>
    obtain ⟨n, k, a, c, rfl, rfl, hn, hkn, hkc, hk, hO, hbl⟩ := hrel
    by_cases hlt : n < L.length
    · obtain ⟨b, o, rfl, hbs, hin⟩ : ∃ b o, A = some ⟨b, o, none⟩ ∧ b < w.heap.size ∧ In w b o L := by
        rcases HA.out with h | h
        · subst h; simp at hlt
        · exact h
      obtain ⟨c0, c1, c2⟩ := (hin.below hbs hbl).getMb n hlt
      have hi0 : (0 : Int) ≤ (n : Int) := by omega
      have hi1 : (n : Int) < (L.length : Int) := by omega
      cases hh : L[n].has
      · rw [hh] at c2
        have hF := beatsF_no hlt hh
        have hk' : Hid (k = (beatsF (L.take (n + 1))).length) := by show _ = _; rw [hF]; exact hk.out
        have hO' : Hid ((wr.alloc (.cells #[.int .i64 L[n].who, .int .i64 L[n].beat, .bool false] 59)).ownsRow w.heap.size 3 1 (.slice a k c) k (flat (beatsF (L.take (n + 1))))) := by show World.ownsRow _ _ _ _ _ _ _; rw [hF]; exact owns_alloc hO.out _
        clear hF
        go_wp2
        exact ⟨⟨n + 1, k, a, c, by go_num, rfl, by omega, by omega, hkc, hk', hO', alloc0 hbl _⟩, by simp [intOf]; omega⟩
      · rw [hh] at c2
        have hF := beatsF_yes hlt hh
        have hkn' : k = n := by rw [hk.out]; unfold beatsF; rw [hasFirst_take Hf.out hlt hh]; simp; omega
        subst hkn'
        have e0 : (k : Int) - (k : Int) = 0 := by omega
        have hr0 := append_make0 (P := Try.prog) 22 3 3 i0 Try.underlying22 Try.underlying3 hi a k c hkc (wr.alloc (.cells #[.int .i64 L[k].who, .int .i64 L[k].beat, .bool true] 59))
        have hB2 : w.heap.size ≤ ((wr.alloc (.cells #[.int .i64 L[k].who, .int .i64 L[k].beat, .bool true] 59)).alloc (.cells #[.int .i64 L[k].beat] 3)).heap.size := by have := hbl.size; simp; omega
        have hO2 := owns_alloc (owns_alloc hO.out (.cells #[.int .i64 L[k].who, .int .i64 L[k].beat, .bool true] 59)) (.cells #[.int .i64 L[k].beat] 3)
        have hA2 := one_at (wr.alloc (.cells #[.int .i64 L[k].who, .int .i64 L[k].beat, .bool true] 59)) L[k].beat 3
        have hln : (beatsF (L.take k)).length = k := hk.out.symm
        obtain ⟨v', w3, hr, hown3, hgrow, hat⟩ := append_els (P := Try.prog) Try.underlying22 infoInt rfl (by decide) (by decide) w.heap.size (.slice a k c) (beatsF (L.take k)) [L[k].beat] (some ⟨(wr.alloc (.cells #[.int .i64 L[k].who, .int .i64 L[k].beat, .bool true] 59)).heap.size, 0, none⟩) 1 ((wr.alloc (.cells #[.int .i64 L[k].who, .int .i64 L[k].beat, .bool true] 59)).alloc (.cells #[.int .i64 L[k].beat] 3)) hB2 (by rw [hln]; exact hO2) hA2 (by rw [hln]; simp; omega)
        rw [hln, ← hF] at hown3
        simp only [List.length_cons, List.length_nil, Nat.zero_add] at hown3 hr
        obtain ⟨a', c', rfl, hc'⟩ := owns_form hown3
        have HO3 := hidP hown3
        have hk3 : Hid (k + 1 = (beatsF (L.take (k + 1))).length) := by show _ = _; rw [hF]; simp [hln]
        have HB3 : Hid (Below w.heap.size w w3) := (alloc0 (alloc0 hbl _) _).grown hgrow (alloc0 (alloc0 hbl _) _).size (fun j e => Nat.le_of_not_lt fun h => owns_far hO.out (show j < w.heap.size by omega) e.symm)
        clear hown3 hgrow hat hO2 hA2 hB2 hF hln hkn hk
        rw [World.size_alloc] at hr
        go_wp2_with (first
          | (at_builtin; refine wpList_append_is rfl _ _ _ rfl _ _ _ rfl rfl hr ?_)
          | (at_builtin; refine wpList_append2_is rfl _ _ _ _ rfl _ _ _ rfl rfl hr0 ?_))
        exact ⟨⟨k + 1, k + 1, a', c', by go_num, rfl, by omega, by omega, hc', hk3, HO3, HB3.out⟩, by simp [intOf]; omega⟩
    · obtain rfl : n = L.length := by omega
      obtain ⟨v', w3, hr, hown3, hgrow, hat⟩ := append_els (P := Try.prog) Try.underlying22 infoInt rfl (by decide) (by decide) w.heap.size (.slice a k c) (beatsF L) N AN capN wr hbl.size (by have h1 := hO.out; have h2 := hk.out; rw [List.take_length] at h1 h2; rw [← h2]; exact h1) (HN.out.below hbl) (by have := beatsF_le L; omega)
      have hel : (beatsF L).length + N.length = (beatsF L ++ N).length := by simp
      rw [hel] at hown3
      have HO3 := hidP hown3
      have HB3 : Hid (Below w.heap.size w w3) := hbl.grown hgrow hbl.size (fun j e => Nat.le_of_not_lt fun h => owns_far hO.out (show j < w.heap.size by omega) e.symm)
      have hb' := Hb.out.below hbl Hb.out.lt
      obtain ⟨v0, v1⟩ := hb'.row2
      clear hown3 hgrow hat hel
      go_wp2_with (at_builtin; refine wpList_append_is rfl _ _ _ rfl _ _ _ rfl rfl hr ?_)
      go_ret
      exact ⟨_, rfl, HO3.out, HB3.out⟩
end Go.Proofs.Ytllmaiefjgfpmaa.Gen
