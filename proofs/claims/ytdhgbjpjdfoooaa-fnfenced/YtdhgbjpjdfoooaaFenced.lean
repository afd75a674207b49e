/-
  FnFenced: at every input the program's answer is the specification's, and a put of an older epoch, or one that skips, puts nothing. No condition.
-/
import Derived.Test.YtdhgbjpjdfoooaaDrawAsk
import Derived.Test.YtdhgbjpjdfoooaaFence2
import Derived.Test.YtdhgbjpjdfoooaaImplPut
import Derived.ChangeMaps5
namespace Go.Proofs.Ytdhgbjpjdfoooaa.Fenced
open Go.ChangeShapes Go.WideShapes Go.ChangeAt Go.RowKit Go.Joins Go.Deep Base Gen
set_option linter.unusedVariables false

theorem own : ownKnob Try.prog.godebug = none := by kernel_rfl
theorem laidOut : laidOutB Try.prog = true := by kernel_rfl

theorem fence_find {B : List Mk} {sq : Int} (hB : ∀ x ∈ B, x.seq ≠ sq) : markFrom (lastN 3 (B ++ [⟨sq, 50⟩])) sq 0 = some ⟨sq, 50⟩ := by
  unfold markFrom lastN
  rw [List.drop_zero]
  have h3 : (3 : Int).toNat = 3 := rfl
  rw [h3, List.length_append, List.length_singleton, List.drop_append_of_le_length (by omega), List.find?_append]
  have : (B.drop (B.length + 1 - 3)).find? (fun x => decide (x.seq = sq)) = none := by
    rw [List.find?_eq_none]
    intro x hx
    simpa using hB x (List.mem_of_mem_drop hx)
  rw [this]
  simp
theorem fence_base {epoch last ep sq : Int} {L : List Mk} (h : askC epoch last L ep sq = 0) (hs : ∀ x ∈ L, x.seq ≤ last) : ∀ x ∈ putB epoch L ep, x.seq ≠ sq := by
  intro x hx
  unfold putB at hx
  split at hx
  · simp at hx
  · rename_i h2
    unfold askC at h
    by_cases h1 : ep < epoch
    · rw [if_pos h1] at h; omega
    · rw [if_neg h1, if_neg h2] at h
      by_cases h3 : sq > last
      · have := hs x hx; omega
      · rw [if_neg h3] at h
        unfold upC at h
        cases hm : markFrom L sq 0 <;> rw [hm] at h <;> simp at h
theorem lastN_le (B : List Mk) (x : Mk) : (lastN 3 (B ++ [x])).length ≤ 1048576 := by
  unfold lastN
  have h3 : (3 : Int).toNat = 3 := rfl
  rw [h3, List.length_drop]
  omega
theorem put_no (row who epoch last ep sq : Int) (a : Option Addr) (c : Nat) (L : List Mk) (hL : L.length ≤ 9) (h : ¬ askC epoch last L ep sq = 0) (w : World) (hA : At w a L) :
    Calls Try.prog 12 #[.agg #[.int .i64 row, .int .i64 who, .int .i64 epoch, .int .i64 last, .slice a L.length c], .int .i64 3, .int .i64 ep, .int .i64 sq, .int .i64 50] w fun e w' => ∃ v, e = .returned (.agg #[.int .i64 row, .int .i64 who, .int .i64 epoch, .int .i64 last, v]) ∧ Fresh w.heap.size w' v L ∧ Below w.heap.size w w' := by
  have hp := implPut_any row who epoch last 3 ep sq 50 ⟨by omega, by omega⟩ a c L (by omega) w hA
  have e : putD epoch last L ep sq = false := by simp [putD, h]
  simp only [putE, putS, putM, e] at hp
  exact hp
theorem put_yes (row who epoch last ep sq : Int) (a : Option Addr) (c : Nat) (L : List Mk) (hL : L.length ≤ 9) (h : askC epoch last L ep sq = 0) (w : World) (hA : At w a L) :
    Calls Try.prog 12 #[.agg #[.int .i64 row, .int .i64 who, .int .i64 epoch, .int .i64 last, .slice a L.length c], .int .i64 3, .int .i64 ep, .int .i64 sq, .int .i64 50] w fun e w' => ∃ v, e = .returned (.agg #[.int .i64 row, .int .i64 who, .int .i64 ep, .int .i64 sq, v]) ∧ Fresh w.heap.size w' v (lastN 3 (putB epoch L ep ++ [⟨sq, 50⟩])) ∧ Below w.heap.size w w' := by
  have hp := implPut_any row who epoch last 3 ep sq 50 ⟨by omega, by omega⟩ a c L (by omega) w hA
  have e : putD epoch last L ep sq = true := by simp [putD, h]
  simp only [putE, putS, putM, e] at hp
  exact hp
theorem ask_again (row who ep sq : Int) (a : Option Addr) (c : Nat) (L : List Mk) (hL : L.length ≤ 1048576) (h : markFrom L sq 0 = some ⟨sq, 50⟩) (w : World) (hA : At w a L) :
    Calls Try.prog 9 #[.agg #[.int .i64 row, .int .i64 who, .int .i64 ep, .int .i64 sq, .slice a L.length c], .int .i64 ep, .int .i64 sq] w fun e w' => e = .returned (.tuple #[.int .i64 1, .int .i64 50]) ∧ Below w.heap.size w w' := by
  have hp := implAsk_any row who ep sq ep sq a c L hL w hA
  have e1 : askC ep sq L ep sq = 1 := by unfold askC; rw [if_neg (by omega), if_neg (by omega), if_neg (by omega)]; unfold upC; rw [h]
  have e2 : askO ep sq L ep sq = 50 := by unfold askO; rw [if_neg (by omega), if_neg (by omega), if_neg (by omega)]; unfold upO; rw [h]
  rw [e1, e2] at hp
  exact hp

set_option maxRecDepth 100000 in
set_option maxHeartbeats 4000000 in
theorem law_any (A : Option Addr) (cap : Nat) (l : List By) (hl : l.length ≤ 9223372036854775807) (hby : ∀ x ∈ l, x.right) (w : World) (hA : At w A l) :
    Calls Try.prog 3 #[.slice A l.length cap] w fun e w' => e = .returned (.bool true) ∧ Below w.heap.size w w' := by
  have HA := hidP hA
  have Hby := hidP hby
  clear hA hby
  by_cases hbig : (1048576 : Int) < (l.length : Int)
  · have hd : decide ((1048576 : Int) < (l.length : Int)) = true := decide_eq_true hbig
    go_enter Try.func3, Try.ntmps3
    go_wp2_with (go_at_call 7; refine (big_any A l.length cap hl _).mono ?_; rw [hd]; rintro e w1 ⟨rfl, rfl⟩)
    go_ret
    exact ⟨rfl, Below.refl _ _⟩
  have hd : decide ((1048576 : Int) < (l.length : Int)) = false := decide_eq_false hbig
  go_enter Try.func3, Try.ntmps3
  go_wp2_with fail
  refine (big_any A l.length cap hl _).mono ?_
  rw [hd]
  rintro e w0 ⟨rfl, rfl⟩
  clear hd
  go_wp2_with fail
  refine (drawAsk_any A cap l (by omega) Hby.out _ HA.out).mono ?_
  rintro e w1 ⟨row, who, epoch, last, ep, sq, v, L, rfl, hown, hL, g1⟩
  obtain ⟨a, c, rfl, _⟩ := owns_form hown
  have HA1 := hidP (owns_at rfl hown)
  have HB1 := hidP g1
  clear hown g1
  go_wp2_with fail
  refine (implAsk_any row who epoch last ep sq a c L (by omega) _ (HA1.out.below (alloc0 (Below.refl _ _) _))).mono ?_
  rintro e w2 ⟨rfl, g2⟩
  have bM2 := (Blk.new w1 26 #[.int .i64 row, .int .i64 who, .int .i64 epoch, .int .i64 last, .slice a L.length c]).below g2 (by simp)
  have HA2' := hidP (HA1.out.below (via0 g2 (alloc0 (Below.refl _ _) _)))
  have HB2 := hidP (via0 g2 (alloc0 HB1.out _))
  clear g2
  obtain ⟨s0, s1, s2, s3, s4⟩ := bM2.row5
  go_wp2_with fail
  refine (specAsk_any row who epoch last ep sq a c L (by omega) _ HA2'.out).mono ?_
  rintro e w3 ⟨rfl, g3⟩
  have bM3 := bM2.below g3 bM2.lt
  have HA2 := hidP (HA2'.out.below g3)
  have HB3 := hidP (via0 g3 HB2.out)
  clear g3 s0 s1 s2 s3 s4 HA2'
  obtain ⟨s0, s1, s2, s3, s4⟩ := bM3.row5
  have qM := bM3.lt
  by_cases h1 : ep < epoch
  · have hX : askC epoch last L ep sq = 4 := by simp [askC, h1]
    have HX : Hid (¬ askC epoch last L ep sq = 0) := by show ¬ _; omega
    rw [hX]
    clear hX
    go_wp2_with fail
    refine (implOk_any row who epoch last 5 a c L (by omega) _ (HA2.out)).mono ?_
    rintro e w4 ⟨v4, rfl, hv4, g4⟩
    have HV4 := hidP hv4
    have bM4 := bM3.below g4 bM3.lt
    have HA4 := hidP (HA2.out.below g4)
    have HB4 := hidP (via0 g4 HB3.out)
    clear hv4 g4 s0 s1 s2 s3 s4
    obtain ⟨s0, s1, s2, s3, s4⟩ := bM4.row5
    have qM4 := bM4.lt
    cases v4
    · go_wp2
      go_ret
      exact ⟨rfl, HB4.out⟩
    · go_wp2_with fail
      refine (put_no row who epoch last ep sq a c L hL HX.out _ HA4.out).mono ?_
      rintro e w5 ⟨v5, rfl, hf5, g5⟩
      obtain ⟨a5, c5, rfl, _, hat5⟩ := hf5
      have HF5 : Hid (At w5 a5 L) := hat5.imp id fun ⟨b, o, e, _, hb, hi, _⟩ => ⟨b, o, e, hb, hi⟩
      have bM5 := bM4.below g5 bM4.lt
      have HA5 := hidP (HA4.out.below g5)
      have HB5 := hidP (via0 g5 HB4.out)
      clear hat5 g5 s0 s1 s2 s3 s4
      obtain ⟨s0, s1, s2, s3, s4⟩ := bM5.row5
      have qM5 := bM5.lt
      go_wp2_with fail
      refine (same_any row who epoch last a5 a c5 c L (by omega) _ (HF5.out.below (alloc0 (Below.refl _ _) _)) (HA5.out.below (alloc0 (Below.refl _ _) _))).mono ?_
      rintro e w6 ⟨rfl, g6⟩
      have HB6 := hidP (via0 g6 (alloc0 HB5.out _))
      go_wp2
      go_ret
      exact ⟨rfl, HB6.out⟩
  by_cases h2 : ep > epoch
  · by_cases h3 : sq = 0
    · have hX : askC epoch last L ep sq = 0 := by simp [askC, h1, h2, h3]
      have HX := hidP hX
      rw [hX]
      clear hX
      subst h3
      go_wp2_with fail
      refine (implOk_any row who epoch last 5 a c L (by omega) _ (HA2.out)).mono ?_
      rintro e w4 ⟨v4, rfl, hv4, g4⟩
      have HV4 := hidP hv4
      have bM4 := bM3.below g4 bM3.lt
      have HA4 := hidP (HA2.out.below g4)
      have HB4 := hidP (via0 g4 HB3.out)
      clear hv4 g4 s0 s1 s2 s3 s4
      obtain ⟨s0, s1, s2, s3, s4⟩ := bM4.row5
      have qM4 := bM4.lt
      cases v4
      · go_wp2
        go_ret
        exact ⟨rfl, HB4.out⟩
      · have hfind := fence_find (fence_base HX.out (HV4.out rfl))
        go_wp2_with fail
        refine (put_yes row who epoch last ep 0 a c L hL HX.out _ HA4.out).mono ?_
        rintro e w5 ⟨v5, rfl, hf5, g5⟩
        obtain ⟨a5, c5, rfl, _, hat5⟩ := hf5
        have hLL := lastN_le (putB epoch L ep) ⟨0, 50⟩
        generalize hgL : lastN 3 (putB epoch L ep ++ [⟨0, 50⟩]) = LL at *
        have HF5 : Hid (At w5 a5 LL) := hat5.imp id fun ⟨b, o, e, _, hb, hi, _⟩ => ⟨b, o, e, hb, hi⟩
        have HB5 := hidP (via0 g5 HB4.out)
        have HFi := hidP hfind
        clear hat5 g5 s0 s1 s2 s3 s4 hfind
        go_wp2_with fail
        refine (ask_again row who ep 0 a5 c5 LL hLL HFi.out _ (HF5.out.below (alloc0 (Below.refl _ _) _))).mono ?_
        rintro e w6 ⟨rfl, g6⟩
        have HB6 := hidP (via0 g6 (alloc0 HB5.out _))
        have bA6 := (Blk.new w5 26 #[.int .i64 row, .int .i64 who, .int .i64 ep, .int .i64 0, .slice a5 LL.length c5]).below g6 (by simp)
        obtain ⟨t0, t1, t2, t3, t4⟩ := bA6.row5
        go_wp2
        go_ret
        exact ⟨rfl, HB6.out⟩
    · have hX : askC epoch last L ep sq = 3 := by simp [askC, h1, h2, h3]
      have HX : Hid (¬ askC epoch last L ep sq = 0) := by show ¬ _; omega
      rw [hX]
      clear hX
      go_wp2_with fail
      refine (implOk_any row who epoch last 5 a c L (by omega) _ (HA2.out)).mono ?_
      rintro e w4 ⟨v4, rfl, hv4, g4⟩
      have HV4 := hidP hv4
      have bM4 := bM3.below g4 bM3.lt
      have HA4 := hidP (HA2.out.below g4)
      have HB4 := hidP (via0 g4 HB3.out)
      clear hv4 g4 s0 s1 s2 s3 s4
      obtain ⟨s0, s1, s2, s3, s4⟩ := bM4.row5
      have qM4 := bM4.lt
      cases v4
      · go_wp2
        go_ret
        exact ⟨rfl, HB4.out⟩
      · go_wp2_with fail
        refine (put_no row who epoch last ep sq a c L hL HX.out _ HA4.out).mono ?_
        rintro e w5 ⟨v5, rfl, hf5, g5⟩
        obtain ⟨a5, c5, rfl, _, hat5⟩ := hf5
        have HF5 : Hid (At w5 a5 L) := hat5.imp id fun ⟨b, o, e, _, hb, hi, _⟩ => ⟨b, o, e, hb, hi⟩
        have bM5 := bM4.below g5 bM4.lt
        have HA5 := hidP (HA4.out.below g5)
        have HB5 := hidP (via0 g5 HB4.out)
        clear hat5 g5 s0 s1 s2 s3 s4
        obtain ⟨s0, s1, s2, s3, s4⟩ := bM5.row5
        have qM5 := bM5.lt
        go_wp2_with fail
        refine (same_any row who epoch last a5 a c5 c L (by omega) _ (HF5.out.below (alloc0 (Below.refl _ _) _)) (HA5.out.below (alloc0 (Below.refl _ _) _))).mono ?_
        rintro e w6 ⟨rfl, g6⟩
        have HB6 := hidP (via0 g6 (alloc0 HB5.out _))
        go_wp2
        go_ret
        exact ⟨rfl, HB6.out⟩
  by_cases hX : askC epoch last L ep sq = 0
  · have HX := hidP hX
    rw [hX]
    clear hX
    go_wp2_with fail
    refine (implOk_any row who epoch last 5 a c L (by omega) _ (HA2.out)).mono ?_
    rintro e w4 ⟨v4, rfl, hv4, g4⟩
    have HV4 := hidP hv4
    have bM4 := bM3.below g4 bM3.lt
    have HA4 := hidP (HA2.out.below g4)
    have HB4 := hidP (via0 g4 HB3.out)
    clear hv4 g4 s0 s1 s2 s3 s4
    obtain ⟨s0, s1, s2, s3, s4⟩ := bM4.row5
    have qM4 := bM4.lt
    cases v4
    · go_wp2
      go_ret
      exact ⟨rfl, HB4.out⟩
    · have hfind := fence_find (fence_base HX.out (HV4.out rfl))
      go_wp2_with fail
      refine (put_yes row who epoch last ep sq a c L hL HX.out _ HA4.out).mono ?_
      rintro e w5 ⟨v5, rfl, hf5, g5⟩
      obtain ⟨a5, c5, rfl, _, hat5⟩ := hf5
      have hLL := lastN_le (putB epoch L ep) ⟨sq, 50⟩
      generalize hgL : lastN 3 (putB epoch L ep ++ [⟨sq, 50⟩]) = LL at *
      have HF5 : Hid (At w5 a5 LL) := hat5.imp id fun ⟨b, o, e, _, hb, hi, _⟩ => ⟨b, o, e, hb, hi⟩
      have HB5 := hidP (via0 g5 HB4.out)
      have HFi := hidP hfind
      clear hat5 g5 s0 s1 s2 s3 s4 hfind
      go_wp2_with fail
      refine (ask_again row who ep sq a5 c5 LL hLL HFi.out _ (HF5.out.below (alloc0 (Below.refl _ _) _))).mono ?_
      rintro e w6 ⟨rfl, g6⟩
      have HB6 := hidP (via0 g6 (alloc0 HB5.out _))
      have bA6 := (Blk.new w5 26 #[.int .i64 row, .int .i64 who, .int .i64 ep, .int .i64 sq, .slice a5 LL.length c5]).below g6 (by simp)
      obtain ⟨t0, t1, t2, t3, t4⟩ := bA6.row5
      go_wp2
      go_ret
      exact ⟨rfl, HB6.out⟩
  · have HX := hidP hX
    generalize hX9 : askC epoch last L ep sq = X at *
    rw [← hX9] at HX
    clear hX9
    go_wp2_with fail
    refine (implOk_any row who epoch last 5 a c L (by omega) _ (HA2.out)).mono ?_
    rintro e w4 ⟨v4, rfl, hv4, g4⟩
    have HV4 := hidP hv4
    have bM4 := bM3.below g4 bM3.lt
    have HA4 := hidP (HA2.out.below g4)
    have HB4 := hidP (via0 g4 HB3.out)
    clear hv4 g4 s0 s1 s2 s3 s4
    obtain ⟨s0, s1, s2, s3, s4⟩ := bM4.row5
    have qM4 := bM4.lt
    cases v4
    · go_wp2
      go_ret
      exact ⟨rfl, HB4.out⟩
    · go_wp2_with fail
      refine (put_no row who epoch last ep sq a c L hL HX.out _ HA4.out).mono ?_
      rintro e w5 ⟨v5, rfl, hf5, g5⟩
      obtain ⟨a5, c5, rfl, _, hat5⟩ := hf5
      have HF5 : Hid (At w5 a5 L) := hat5.imp id fun ⟨b, o, e, _, hb, hi, _⟩ => ⟨b, o, e, hb, hi⟩
      have bM5 := bM4.below g5 bM4.lt
      have HA5 := hidP (HA4.out.below g5)
      have HB5 := hidP (via0 g5 HB4.out)
      clear hat5 g5 s0 s1 s2 s3 s4
      obtain ⟨s0, s1, s2, s3, s4⟩ := bM5.row5
      have qM5 := bM5.lt
      go_wp2_with fail
      refine (same_any row who epoch last a5 a c5 c L (by omega) _ (HF5.out.below (alloc0 (Below.refl _ _) _)) (HA5.out.below (alloc0 (Below.refl _ _) _))).mono ?_
      rintro e w6 ⟨rfl, g6⟩
      have HB6 := hidP (via0 g6 (alloc0 HB5.out _))
      go_wp2
      go_ret
      exact ⟨rfl, HB6.out⟩

theorem cellsU8 : Try.prog.cellsOf 5 = 1 := by kernel_rfl
set_option maxRecDepth 100000 in
theorem openBy {H : Type} {enc : TypeId × Value → H} {w : World} {base n : Nat} {spare : Nat → Bool} {held : Bool} {a : Addr} {cs : List Value} {y : DataW H × List MemPlace}
    (h1 : w.cells? base a 1 = some cs) (h2 : DataW.trod enc Try.prog w base spare held n 5 cs = some y) :
    ∃ x : By, x.right ∧ a.spot = none ∧ a.block < w.heap.size ∧ ∀ j v, (Cel.cs x)[j]? = some v → w.cell? ⟨a.block, a.off + j, none⟩ = some v := by
  obtain ⟨_, hlen, hc⟩ := World.cells?_some h1
  match cs, hlen with
  | [c0], _ =>
    obtain ⟨x, e0, _, w0⟩ := DataW.trod_int Try.underlying5 h2
    simp at e0
    subst e0
    have q0 := hc 0 (by omega)
    have hsp : a.spot = none := by
      cases hs : a.spot with
      | none => rfl
      | some s => exfalso; simp [Addr.add, World.cell?, hs] at q0; split at q0 <;> simp at q0
    have hlt : a.block < w.heap.size := by
      rw [show a.add 0 = a from rfl] at q0
      unfold World.cell? at q0
      cases hh : w.heap[a.block]? with
      | none => simp [hh] at q0
      | some ob => exact (Array.getElem?_eq_some_iff.1 hh).1
    refine ⟨⟨x⟩, by simpa [By.right, Lit.wf, IntKind.min, IntKind.max, IntKind.signed, IntKind.bits] using w0, hsp, hlt, ?_⟩
    intro j v hv
    have hj : j < 1 := (List.getElem?_eq_some_iff.1 hv).1
    have q := hc j hj
    have e : a.add j = ⟨a.block, a.off + j, none⟩ := by
      obtain ⟨b, o, s⟩ := a
      simp only at hsp
      subst hsp
      exact Addr.add_mid b o j
    rw [e] at q
    rw [q]
    exact hv
set_option maxRecDepth 100000 in
theorem openBytes {H : Type} {enc : TypeId × Value → H} {W : World} {base b0 : Nat} {r : Reach} {spare : Nat → Bool} {held : Bool} {v : Value} {d : DataW H} {p : List MemPlace}
    (hv : Value.okWide Try.prog W r b0 22 v) (h : DataW.Trod enc Try.prog W base spare held 22 v d p) :
    ∃ (A : Option Addr) (cap : Nat) (l : List By), v = .slice A l.length cap ∧ l.length ≤ 9223372036854775807 ∧ (∀ x ∈ l, x.right) ∧ At W A l := by
  obtain ⟨a0, len0, cap0, rfl⟩ := okWide_slice Try.underlying22 hv
  obtain ⟨n, g⟩ := h
  rcases open_slice Try.underlying22 g with ⟨e2, _⟩ | ⟨a, len, cap, m, n', D, Pl, e2, _, hl, hm, hmm, _, hx⟩
  · simp [Value.cells] at e2
    obtain ⟨rfl, rfl, rfl⟩ := e2
    exact ⟨none, 0, [], rfl, by simp, by simp, .inl rfl⟩
  · simp [Value.cells] at e2
    obtain ⟨rfl, rfl, rfl⟩ := e2
    have hle : len0 ≤ m := by rw [hmm]; split <;> omega
    rw [cellsU8] at hx
    obtain ⟨X, hX⟩ := choose_lt (α := By) (p := fun i x => x.right ∧ (a.add (i * 1)).spot = none ∧ (a.add (i * 1)).block < W.heap.size ∧ ∀ j v, (Cel.cs x)[j]? = some v → W.cell? ⟨(a.add (i * 1)).block, (a.add (i * 1)).off + j, none⟩ = some v)
      (n := len0) (fun i hi => by obtain ⟨cs', h1, h2⟩ := hx i (by omega); exact openBy h1 h2)
    obtain ⟨l, rfl, hR, hat⟩ := at_of (α := By) (by decide) (R := By.right) hX
    exact ⟨some a, cap0, l, rfl, by simp [maxLen] at hm ⊢; omega, hR, hat⟩

set_option maxRecDepth 100000 in
theorem contract (H : Type) (enc : TypeId × Value → H) (W : World) (base : Nat) (args : Array Value) (ds gs : List (DataW H)) (before : List MemPlace)
    (hval : ∀ (j : Nat) t v, Try.f3.params[j]? = some t → args[j]? = some v → Value.okWide Try.prog W .any base t v)
    (hW : DataW.Whole enc Try.prog Try.f3.params.toList Rows.fnFencedSpec.vars false W args.toList ds gs before) :
    Calls Try.prog 3 args W fun e W' => ∃ v, e = .returned v ∧ Rows.fnFencedSpec.post enc Try.prog Try.f3 false true false false W args v W' := by
  have hW' := hW
  obtain ⟨p, q, hA0, hV, rfl, hfz, hnd⟩ := hW
  have hA : DataW.TrodAll enc Try.prog W 0 (fun _ => true) true Try.f3.params.toList args.toList ds p := hA0
  rw [Try.params3] at hA hval
  obtain ⟨v0, vs0, d0, ds0, p0, q0, e0, rfl, rfl, h0, r0⟩ := trodAll_cons hA
  obtain ⟨rfl, rfl, rfl⟩ := trodAll_nil r0
  have e0' : args = #[v0] := by cases args; simp_all
  subst e0'
  obtain ⟨rfl, rfl⟩ := trodVars_none hV
  obtain ⟨A, cap, l, rfl, hl, hby, hat⟩ := openBytes (hval 0 22 v0 rfl rfl) h0
  refine (law_any A cap l hl hby W hat).mono fun e W' ⟨he, hb⟩ => ?_
  subst he
  exact ⟨_, rfl, post_true laidOut (by kernel_rfl) (by kernel_rfl) Try.underlying4 rfl rfl hW' hb⟩

set_option maxRecDepth 100000 in
theorem lifted (os : Os) (started : os.Started) (H : Type) (enc : TypeId × Value → H) :
    ReturnsInHanded {} Try.checked os 3 .any (Rows.fnFencedSpec.pre6 enc Try.prog Try.f3 Rows.fnFencedRow.domain false) (Rows.fnFencedSpec.post enc Try.prog Try.f3 false true false false) := by
  refine returnsInHanded_of_change (C := Try.checked) own started (by kernel_rfl) Try.func3
    (ChangeSpec.witness6 (enc := enc) (C := Try.checked) false ⟨#[], #[.slice none 0 0], []⟩ 8 (by kernel_rfl) (by kernel_rfl) (by kernel_rfl) (by kernel_rfl)) ?_
  intro W base args ds gs before hval0 hW _ _
  exact contract H enc W base args ds gs before hval0 hW

theorem proved : Rows.FnFencedSaid :=
  OpenClaim.holds_of_wide 3 Try.f3 rfl rfl rfl rfl rfl rfl rfl ⟨rfl, rfl, rfl, rfl, rfl⟩ rfl rfl rfl rfl rfl (by kernel_rfl) Try.func3 (by kernel_rfl)
    (of_decide_eq_true (by kernel_rfl)) (by unfold Func.isWrapper; first | (rw [if_pos (by decide +kernel)]; kernel_rfl) | (rw [if_neg (by decide +kernel)]; exact ⟨rfl, rfl⟩))
    (fun os started H enc _ => lifted os started H enc)
end Go.Proofs.Ytdhgbjpjdfoooaa.Fenced
namespace Go.Proofs.Ytdhgbjpjdfoooaa
theorem fenced_holds : Rows.FnFencedSaid := Fenced.proved
end Go.Proofs.Ytdhgbjpjdfoooaa
