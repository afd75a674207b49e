/-
  FnRows: at every input the program's answers are the specification's; what is put is got under its number, and all that was got before is got still. No condition.
-/
import Derived.Test.YtnmbbkagjpmhdaaDrawPut
import Derived.Test.YtnmbbkagjpmhdaaDrawGet
import Derived.Test.YtnmbbkagjpmhdaaDrawLatest
import Derived.Test.YtnmbbkagjpmhdaaSameRow
import Derived.Test.YtnmbbkagjpmhdaaRowFacts
import Derived.Test.YtnmbbkagjpmhdaaImplRowPut
import Derived.Test.YtnmbbkagjpmhdaaImplRowGet2
import Derived.Test.YtnmbbkagjpmhdaaImplLatest2
import Derived.Test.YtnmbbkagjpmhdaaSpecRowOk2
import Derived.ChangeMaps5
namespace Go.Proofs.Ytnmbbkagjpmhdaa.Rows_
open Go.ChangeShapes Go.WideShapes Go.ChangeAt Go.RowKit Go.Joins Go.Deep Base Gen
set_option linter.unusedVariables false
set_option linter.unusedSimpArgs false

theorem own : ownKnob Try.prog.godebug = none := by kernel_rfl
theorem laidOut : laidOutB Try.prog = true := by kernel_rfl

theorem big_any (A : Option Addr) (n cap : Nat) (hn : n ≤ 9223372036854775807) (w : World) :
    Calls Try.prog 8 #[.slice A n cap] w fun e w' => e = .returned (.bool (decide ((1048576 : Int) < (n : Int)))) ∧ w' = w := by
  go_enter Try.func8, Try.ntmps8
  go_wp2
  go_ret
  exact ⟨rfl, rfl⟩
theorem fresh_at {B : Nat} {W : World} {v : Value} {l : List Items.It} (h : Items.Fresh B W v l) : ∃ a c, v = .slice a l.length c ∧ Items.At W a l := by
  obtain ⟨a, c, rfl, _, h⟩ := h
  exact ⟨a, c, rfl, h.imp id fun ⟨b, o, e, _, hb, hi, _⟩ => ⟨b, o, e, hb, hi⟩⟩
theorem ok_is {start next : Int} {L : List Items.It} {b : Bool} (h : Items.rowB start next L = b) (a : Option Addr) (c : Nat) (hL : L.length ≤ 82) (hs : Sizes L) (w : World) (hA : Items.At w a L) :
    Calls Try.prog 19 #[.agg #[.int .i64 start, .int .i64 next, .slice a L.length c]] w fun e w' => e = .returned (.bool b) ∧ Below w.heap.size w w' := by
  subst h
  exact Items.implRowOk_any start next a c L (by omega) hs w hA
theorem sok_is {start next : Int} {L : List Items.It} {b : Bool} (h : Items.rowB start next L = b) (hn : I64 next) (a : Option Addr) (c : Nat) (hL : L.length ≤ 82) (hs : Sizes L) (w : World) (hA : Items.At w a L) :
    Calls Try.prog 20 #[.agg #[.int .i64 start, .int .i64 next, .slice a L.length c]] w fun e w' => e = .returned (.bool b) ∧ Below w.heap.size w w' := by
  subst h
  exact Items.specRowOk_any start next a c L (by omega) hs hn.1 hn.2 w hA
theorem iget {start off how : Int} {it : Items.It} {L : List Items.It} (h1 : Items.getIt start L off = it) (h2 : Items.getHow start L off = how) (next : Int) (a : Option Addr) (c : Nat) (hL : L.length ≤ 82) (w : World) (hA : Items.At w a L) :
    Calls Try.prog 13 #[.agg #[.int .i64 start, .int .i64 next, .slice a L.length c], .int .i64 off] w fun e w' => e = .returned (.tuple #[.agg #[.int .i64 it.off, .string it.key, .string it.text, .int .i64 it.who, .int .i64 it.time], .int .i64 how]) ∧ Below w.heap.size w w' := by
  subst h1 h2
  exact Items.implRowGet_any start next off a c L (by omega) w hA
theorem sget {start off how : Int} {it : Items.It} {L : List Items.It} (h1 : Items.getIt start L off = it) (h2 : Items.getHow start L off = how) (next : Int) (a : Option Addr) (c : Nat) (hL : L.length ≤ 82) (w : World) (hA : Items.At w a L) :
    Calls Try.prog 14 #[.agg #[.int .i64 start, .int .i64 next, .slice a L.length c], .int .i64 off] w fun e w' => e = .returned (.tuple #[.agg #[.int .i64 it.off, .string it.key, .string it.text, .int .i64 it.who, .int .i64 it.time], .int .i64 how]) ∧ Below w.heap.size w w' := by
  subst h1 h2
  exact Items.specRowGet_any start next off a c L (by omega) w hA
theorem ilat {it : Items.It} {is : Bool} {key : ByteArray} {L : List Items.It} (h1 : (Items.latest L key).getD Items.It.zero = it) (h2 : (Items.latest L key).isSome = is) (start next : Int) (a : Option Addr) (c : Nat) (hL : L.length ≤ 82) (w : World) (hA : Items.At w a L) :
    Calls Try.prog 16 #[.agg #[.int .i64 start, .int .i64 next, .slice a L.length c], .string key] w fun e w' => e = .returned (.tuple #[.agg #[.int .i64 it.off, .string it.key, .string it.text, .int .i64 it.who, .int .i64 it.time], .bool is]) ∧ Below w.heap.size w w' := by
  subst h1 h2
  exact Items.implLatest_any start next key a c L (by omega) w hA
theorem slat {it : Items.It} {is : Bool} {key : ByteArray} {L : List Items.It} (h1 : (Items.latest L key).getD Items.It.zero = it) (h2 : (Items.latest L key).isSome = is) (start next : Int) (a : Option Addr) (c : Nat) (hL : L.length ≤ 82) (w : World) (hA : Items.At w a L) :
    Calls Try.prog 17 #[.agg #[.int .i64 start, .int .i64 next, .slice a L.length c], .string key] w fun e w' => e = .returned (.tuple #[.agg #[.int .i64 it.off, .string it.key, .string it.text, .int .i64 it.who, .int .i64 it.time], .bool is]) ∧ Below w.heap.size w w' := by
  subst h1 h2
  exact Items.specLatest_any start next key a c L (by omega) w hA

/-- What is answered of a put, under letters. -/
def AnsP (start next : Int) (L : List Items.It) (x : Items.It) (N' O' : Int) (P' : Bool) (L' : List Items.It) : Prop := Items.putN start next L x = N' ∧ Items.putO start next L x = O' ∧ Items.putB start next L x = P' ∧ Items.putL start next L x = L'
theorem putL_len (start next : Int) (L : List Items.It) (x : Items.It) : (Items.putL start next L x).length ≤ L.length + 1 := by
  unfold Items.putL
  split <;> simp
theorem impl_put {start next who time N' O' : Int} {key text : ByteArray} {P' : Bool} {L L' : List Items.It} (h : AnsP start next L ⟨next, key, text, who, time⟩ N' O' P' L') (hn : I64 next) (hk : key.size ≤ 9223372036854775807) (ht : text.size ≤ 9223372036854775807) (a : Option Addr) (c : Nat) (hL : L.length ≤ 82) (hs : Sizes L) (w : World) (hA : Items.At w a L) :
    Calls Try.prog 10 #[.agg #[.int .i64 start, .int .i64 next, .slice a L.length c], .string key, .string text, .int .i64 who, .int .i64 time] w fun e w' => ∃ a2 c2, e = .returned (.tuple #[.agg #[.int .i64 start, .int .i64 N', .slice a2 L'.length c2], .int .i64 O', .bool P']) ∧ Items.At w' a2 L' ∧ Below w.heap.size w w' := by
  obtain ⟨rfl, rfl, rfl, rfl⟩ := h
  refine (Items.implRowPut_any start next who time key text a c L (by omega) hs hn hk ht w hA).mono ?_
  rintro e w' ⟨v, rfl, hf, g⟩
  obtain ⟨a2, c2, rfl, hat⟩ := fresh_at hf
  exact ⟨a2, c2, rfl, hat, g⟩
theorem spec_put {start next who time N' O' : Int} {key text : ByteArray} {P' : Bool} {L L' : List Items.It} (h : AnsP start next L ⟨next, key, text, who, time⟩ N' O' P' L') (hn : I64 next) (hk : key.size ≤ 9223372036854775807) (ht : text.size ≤ 9223372036854775807) (a : Option Addr) (c : Nat) (hL : L.length ≤ 82) (hs : Sizes L) (w : World) (hA : Items.At w a L) :
    Calls Try.prog 11 #[.agg #[.int .i64 start, .int .i64 next, .slice a L.length c], .string key, .string text, .int .i64 who, .int .i64 time] w fun e w' => ∃ a2 c2, e = .returned (.tuple #[.agg #[.int .i64 start, .int .i64 N', .slice a2 L'.length c2], .int .i64 O', .bool P']) ∧ Items.At w' a2 L' ∧ Below w.heap.size w w' := by
  obtain ⟨rfl, rfl, rfl, rfl⟩ := h
  refine (Items.specRowPut_any start next who time key text a c L (by omega) hs hn hk ht w hA).mono ?_
  rintro e w' ⟨v, rfl, hf, g⟩
  obtain ⟨a2, c2, rfl, hat⟩ := fresh_at hf
  exact ⟨a2, c2, rfl, hat, g⟩

set_option maxRecDepth 100000 in
set_option maxHeartbeats 6000000 in
theorem law_any (A : Option Addr) (cap : Nat) (l : List By) (hl : l.length ≤ 9223372036854775807) (hby : ∀ x ∈ l, x.right) (w : World) (hA : At w A l) :
    Calls Try.prog 3 #[.slice A l.length cap] w fun e w' => e = .returned (.bool true) ∧ Below w.heap.size w w' := by
  have HA := hidP hA
  have Hby := hidP hby
  clear hA hby
  by_cases hbig : (1048576 : Int) < (l.length : Int)
  · have hd : decide ((1048576 : Int) < (l.length : Int)) = true := decide_eq_true hbig
    go_enter Try.func3, Try.ntmps3
    go_wp2_with (go_at_call 8; refine (big_any A l.length cap hl _).mono ?_; rw [hd]; rintro e w1 ⟨rfl, rfl⟩)
    go_ret
    exact ⟨rfl, Below.refl _ _⟩
  have hd : decide ((1048576 : Int) < (l.length : Int)) = false := decide_eq_false hbig
  go_enter Try.func3, Try.ntmps3
  go_wp2_with fail
  refine (big_any A l.length cap hl _).mono ?_
  rw [hd]
  rintro e w0 ⟨rfl, rfl⟩
  clear hd
  go_wp2_with fail
  refine (drawPut_any A cap l (by omega) Hby.out _ HA.out).mono ?_
  rintro e w1 ⟨start, next, who, time, key, text, v, L, rfl, hown, hi1, hi2, hL, hsz, hks, ⟨_, hts⟩, hwho, htime, g1⟩
  obtain ⟨a, c, rfl, _⟩ := owns_form hown
  have HL := hidP (Items.owns_at hown)
  have HB := hidP g1
  clear hown g1
  obtain ⟨N', O', P', L', hans, hLe⟩ : ∃ N' O' P' L', AnsP start next L ⟨next, key, text, who, time⟩ N' O' P' L' ∧ L'.length ≤ L.length + 1 := ⟨_, _, _, _, ⟨rfl, rfl, rfl, rfl⟩, putL_len _ _ _ _⟩
  go_wp2_with fail
  replace HL := hidP (HL.out.below (alloc0 (Below.refl _ _) (.cells #[.int .i64 start, .int .i64 next, .slice a L.length c] 26)))
  replace HB := hidP (alloc0 HB.out (.cells #[.int .i64 start, .int .i64 next, .slice a L.length c] 26))
  have b3 := Blk.new w1 26 #[.int .i64 start, .int .i64 next, .slice a L.length c]
  generalize w1.heap.size = M3 at *
  generalize w1.alloc (.cells #[.int .i64 start, .int .i64 next, .slice a L.length c] 26) = W1 at *
  refine (impl_put hans hi2 (by omega) (by omega) a c (by omega) hsz _ HL.out).mono ?_
  rintro e w2 ⟨a2, c2, rfl, hat, g2⟩
  replace HL := hidP (HL.out.below g2)
  replace HB := hidP (via0 g2 HB.out)
  replace b3 := b3.below g2 b3.lt
  have HT := hidP hat
  clear g2 hat
  obtain ⟨c00, c01, c02⟩ := b3.row3
  have q0 := b3.lt
  go_wp2_with fail
  clear c00 c01 c02 q0
  replace HL := hidP (HL.out.below (alloc0 (Below.refl _ _) (.cells #[.int .i64 start, .int .i64 N', .slice a2 L'.length c2] 26)))
  replace HB := hidP (alloc0 HB.out (.cells #[.int .i64 start, .int .i64 N', .slice a2 L'.length c2] 26))
  replace b3 := b3.alloc (.cells #[.int .i64 start, .int .i64 N', .slice a2 L'.length c2] 26)
  replace HT := hidP (HT.out.below (alloc0 (Below.refl _ _) (.cells #[.int .i64 start, .int .i64 N', .slice a2 L'.length c2] 26)))
  have b8 := Blk.new w2 26 #[.int .i64 start, .int .i64 N', .slice a2 L'.length c2]
  generalize w2.heap.size = M8 at *
  generalize w2.alloc (.cells #[.int .i64 start, .int .i64 N', .slice a2 L'.length c2] 26) = W2 at *
  refine (spec_put hans hi2 (by omega) (by omega) a c (by omega) hsz _ HL.out).mono ?_
  rintro e w3 ⟨a3, c3, rfl, hat, g3⟩
  replace HL := hidP (HL.out.below g3)
  replace HB := hidP (via0 g3 HB.out)
  replace b3 := b3.below g3 b3.lt
  replace HT := hidP (HT.out.below g3)
  replace b8 := b8.below g3 b8.lt
  have HS := hidP hat
  clear g3 hat
  go_wp2_with fail
  replace HL := hidP (HL.out.below (alloc0 (Below.refl _ _) (.cells #[.int .i64 start, .int .i64 N', .slice a3 L'.length c3] 26)))
  replace HB := hidP (alloc0 HB.out (.cells #[.int .i64 start, .int .i64 N', .slice a3 L'.length c3] 26))
  replace b3 := b3.alloc (.cells #[.int .i64 start, .int .i64 N', .slice a3 L'.length c3] 26)
  replace HT := hidP (HT.out.below (alloc0 (Below.refl _ _) (.cells #[.int .i64 start, .int .i64 N', .slice a3 L'.length c3] 26)))
  replace b8 := b8.alloc (.cells #[.int .i64 start, .int .i64 N', .slice a3 L'.length c3] 26)
  replace HS := hidP (HS.out.below (alloc0 (Below.refl _ _) (.cells #[.int .i64 start, .int .i64 N', .slice a3 L'.length c3] 26)))
  have b11 := Blk.new w3 26 #[.int .i64 start, .int .i64 N', .slice a3 L'.length c3]
  generalize w3.heap.size = M11 at *
  generalize w3.alloc (.cells #[.int .i64 start, .int .i64 N', .slice a3 L'.length c3] 26) = W3 at *
  refine (drawGet_any A cap l (by omega) Hby.out _ (HA.out.below HB.out)).mono ?_
  rintro e w4 ⟨st4, nx4, off4, v4, L4, rfl, hown, _, _, hL4, hsz4, _, g4⟩
  obtain ⟨a4, c4, rfl, _⟩ := owns_form hown
  replace HL := hidP (HL.out.below g4)
  replace HB := hidP (via0 g4 HB.out)
  replace b3 := b3.below g4 b3.lt
  replace HT := hidP (HT.out.below g4)
  replace b8 := b8.below g4 b8.lt
  replace HS := hidP (HS.out.below g4)
  replace b11 := b11.below g4 b11.lt
  have HX := hidP (Items.owns_at hown)
  clear hown g4
  obtain ⟨it, how, hit, hhow⟩ : ∃ it how, Items.getIt st4 L4 off4 = it ∧ Items.getHow st4 L4 off4 = how := ⟨_, _, rfl, rfl⟩
  go_wp2_with fail
  replace HL := hidP (HL.out.below (alloc0 (Below.refl _ _) (.cells #[.int .i64 st4, .int .i64 nx4, .slice a4 L4.length c4] 26)))
  replace HB := hidP (alloc0 HB.out (.cells #[.int .i64 st4, .int .i64 nx4, .slice a4 L4.length c4] 26))
  replace b3 := b3.alloc (.cells #[.int .i64 st4, .int .i64 nx4, .slice a4 L4.length c4] 26)
  replace HT := hidP (HT.out.below (alloc0 (Below.refl _ _) (.cells #[.int .i64 st4, .int .i64 nx4, .slice a4 L4.length c4] 26)))
  replace b8 := b8.alloc (.cells #[.int .i64 st4, .int .i64 nx4, .slice a4 L4.length c4] 26)
  replace HS := hidP (HS.out.below (alloc0 (Below.refl _ _) (.cells #[.int .i64 st4, .int .i64 nx4, .slice a4 L4.length c4] 26)))
  replace b11 := b11.alloc (.cells #[.int .i64 st4, .int .i64 nx4, .slice a4 L4.length c4] 26)
  replace HX := hidP (HX.out.below (alloc0 (Below.refl _ _) (.cells #[.int .i64 st4, .int .i64 nx4, .slice a4 L4.length c4] 26)))
  have b14 := Blk.new w4 26 #[.int .i64 st4, .int .i64 nx4, .slice a4 L4.length c4]
  generalize w4.heap.size = M14 at *
  generalize w4.alloc (.cells #[.int .i64 st4, .int .i64 nx4, .slice a4 L4.length c4] 26) = W4 at *
  refine (iget hit hhow nx4 a4 c4 (by omega) _ HX.out).mono ?_
  rintro e w5 ⟨rfl, g5⟩
  replace HL := hidP (HL.out.below g5)
  replace HB := hidP (via0 g5 HB.out)
  replace b3 := b3.below g5 b3.lt
  replace HT := hidP (HT.out.below g5)
  replace b8 := b8.below g5 b8.lt
  replace HS := hidP (HS.out.below g5)
  replace b11 := b11.below g5 b11.lt
  replace HX := hidP (HX.out.below g5)
  replace b14 := b14.below g5 b14.lt
  clear g5
  obtain ⟨c00, c01, c02⟩ := b14.row3
  have q0 := b14.lt
  go_wp2_with fail
  clear c00 c01 c02 q0
  replace HL := hidP (HL.out.below (alloc0 (Below.refl _ _) (.cells #[.int .i64 it.off, .string it.key, .string it.text, .int .i64 it.who, .int .i64 it.time] 34)))
  replace HB := hidP (alloc0 HB.out (.cells #[.int .i64 it.off, .string it.key, .string it.text, .int .i64 it.who, .int .i64 it.time] 34))
  replace b3 := b3.alloc (.cells #[.int .i64 it.off, .string it.key, .string it.text, .int .i64 it.who, .int .i64 it.time] 34)
  replace HT := hidP (HT.out.below (alloc0 (Below.refl _ _) (.cells #[.int .i64 it.off, .string it.key, .string it.text, .int .i64 it.who, .int .i64 it.time] 34)))
  replace b8 := b8.alloc (.cells #[.int .i64 it.off, .string it.key, .string it.text, .int .i64 it.who, .int .i64 it.time] 34)
  replace HS := hidP (HS.out.below (alloc0 (Below.refl _ _) (.cells #[.int .i64 it.off, .string it.key, .string it.text, .int .i64 it.who, .int .i64 it.time] 34)))
  replace b11 := b11.alloc (.cells #[.int .i64 it.off, .string it.key, .string it.text, .int .i64 it.who, .int .i64 it.time] 34)
  replace HX := hidP (HX.out.below (alloc0 (Below.refl _ _) (.cells #[.int .i64 it.off, .string it.key, .string it.text, .int .i64 it.who, .int .i64 it.time] 34)))
  replace b14 := b14.alloc (.cells #[.int .i64 it.off, .string it.key, .string it.text, .int .i64 it.who, .int .i64 it.time] 34)
  have b16 := Blk.new w5 34 #[.int .i64 it.off, .string it.key, .string it.text, .int .i64 it.who, .int .i64 it.time]
  generalize w5.heap.size = M16 at *
  generalize w5.alloc (.cells #[.int .i64 it.off, .string it.key, .string it.text, .int .i64 it.who, .int .i64 it.time] 34) = W5 at *
  refine (sget hit hhow nx4 a4 c4 (by omega) _ HX.out).mono ?_
  rintro e w6 ⟨rfl, g6⟩
  replace HL := hidP (HL.out.below g6)
  replace HB := hidP (via0 g6 HB.out)
  replace b3 := b3.below g6 b3.lt
  replace HT := hidP (HT.out.below g6)
  replace b8 := b8.below g6 b8.lt
  replace HS := hidP (HS.out.below g6)
  replace b11 := b11.below g6 b11.lt
  replace HX := hidP (HX.out.below g6)
  replace b14 := b14.below g6 b14.lt
  replace b16 := b16.below g6 b16.lt
  clear g6
  clear b14
  clear HX
  go_wp2_with fail
  replace HL := hidP (HL.out.below (alloc0 (Below.refl _ _) (.cells #[.int .i64 it.off, .string it.key, .string it.text, .int .i64 it.who, .int .i64 it.time] 34)))
  replace HB := hidP (alloc0 HB.out (.cells #[.int .i64 it.off, .string it.key, .string it.text, .int .i64 it.who, .int .i64 it.time] 34))
  replace b3 := b3.alloc (.cells #[.int .i64 it.off, .string it.key, .string it.text, .int .i64 it.who, .int .i64 it.time] 34)
  replace HT := hidP (HT.out.below (alloc0 (Below.refl _ _) (.cells #[.int .i64 it.off, .string it.key, .string it.text, .int .i64 it.who, .int .i64 it.time] 34)))
  replace b8 := b8.alloc (.cells #[.int .i64 it.off, .string it.key, .string it.text, .int .i64 it.who, .int .i64 it.time] 34)
  replace HS := hidP (HS.out.below (alloc0 (Below.refl _ _) (.cells #[.int .i64 it.off, .string it.key, .string it.text, .int .i64 it.who, .int .i64 it.time] 34)))
  replace b11 := b11.alloc (.cells #[.int .i64 it.off, .string it.key, .string it.text, .int .i64 it.who, .int .i64 it.time] 34)
  replace b16 := b16.alloc (.cells #[.int .i64 it.off, .string it.key, .string it.text, .int .i64 it.who, .int .i64 it.time] 34)
  have b18 := Blk.new w6 34 #[.int .i64 it.off, .string it.key, .string it.text, .int .i64 it.who, .int .i64 it.time]
  generalize w6.heap.size = M18 at *
  generalize w6.alloc (.cells #[.int .i64 it.off, .string it.key, .string it.text, .int .i64 it.who, .int .i64 it.time] 34) = W6 at *
  refine (drawLatest_any A cap l (by omega) Hby.out _ (HA.out.below HB.out)).mono ?_
  rintro e w7 ⟨st7, nx7, key7, v7, L7, rfl, hown, _, _, hL7, hsz7, _, g7⟩
  obtain ⟨a7, c7, rfl, _⟩ := owns_form hown
  replace HL := hidP (HL.out.below g7)
  replace HB := hidP (via0 g7 HB.out)
  replace b3 := b3.below g7 b3.lt
  replace HT := hidP (HT.out.below g7)
  replace b8 := b8.below g7 b8.lt
  replace HS := hidP (HS.out.below g7)
  replace b11 := b11.below g7 b11.lt
  replace b16 := b16.below g7 b16.lt
  replace b18 := b18.below g7 b18.lt
  have HY := hidP (Items.owns_at hown)
  clear hown g7
  obtain ⟨lt, is, hlt, his⟩ : ∃ lt is, (Items.latest L7 key7).getD Items.It.zero = lt ∧ (Items.latest L7 key7).isSome = is := ⟨_, _, rfl, rfl⟩
  go_wp2_with fail
  replace HL := hidP (HL.out.below (alloc0 (Below.refl _ _) (.cells #[.int .i64 st7, .int .i64 nx7, .slice a7 L7.length c7] 26)))
  replace HB := hidP (alloc0 HB.out (.cells #[.int .i64 st7, .int .i64 nx7, .slice a7 L7.length c7] 26))
  replace b3 := b3.alloc (.cells #[.int .i64 st7, .int .i64 nx7, .slice a7 L7.length c7] 26)
  replace HT := hidP (HT.out.below (alloc0 (Below.refl _ _) (.cells #[.int .i64 st7, .int .i64 nx7, .slice a7 L7.length c7] 26)))
  replace b8 := b8.alloc (.cells #[.int .i64 st7, .int .i64 nx7, .slice a7 L7.length c7] 26)
  replace HS := hidP (HS.out.below (alloc0 (Below.refl _ _) (.cells #[.int .i64 st7, .int .i64 nx7, .slice a7 L7.length c7] 26)))
  replace b11 := b11.alloc (.cells #[.int .i64 st7, .int .i64 nx7, .slice a7 L7.length c7] 26)
  replace b16 := b16.alloc (.cells #[.int .i64 st7, .int .i64 nx7, .slice a7 L7.length c7] 26)
  replace b18 := b18.alloc (.cells #[.int .i64 st7, .int .i64 nx7, .slice a7 L7.length c7] 26)
  replace HY := hidP (HY.out.below (alloc0 (Below.refl _ _) (.cells #[.int .i64 st7, .int .i64 nx7, .slice a7 L7.length c7] 26)))
  have b20 := Blk.new w7 26 #[.int .i64 st7, .int .i64 nx7, .slice a7 L7.length c7]
  generalize w7.heap.size = M20 at *
  generalize w7.alloc (.cells #[.int .i64 st7, .int .i64 nx7, .slice a7 L7.length c7] 26) = W7 at *
  refine (ilat hlt his st7 nx7 a7 c7 (by omega) _ HY.out).mono ?_
  rintro e w8 ⟨rfl, g8⟩
  replace HL := hidP (HL.out.below g8)
  replace HB := hidP (via0 g8 HB.out)
  replace b3 := b3.below g8 b3.lt
  replace HT := hidP (HT.out.below g8)
  replace b8 := b8.below g8 b8.lt
  replace HS := hidP (HS.out.below g8)
  replace b11 := b11.below g8 b11.lt
  replace b16 := b16.below g8 b16.lt
  replace b18 := b18.below g8 b18.lt
  replace HY := hidP (HY.out.below g8)
  replace b20 := b20.below g8 b20.lt
  clear g8
  obtain ⟨c00, c01, c02⟩ := b20.row3
  have q0 := b20.lt
  go_wp2_with fail
  clear c00 c01 c02 q0
  replace HL := hidP (HL.out.below (alloc0 (Below.refl _ _) (.cells #[.int .i64 lt.off, .string lt.key, .string lt.text, .int .i64 lt.who, .int .i64 lt.time] 34)))
  replace HB := hidP (alloc0 HB.out (.cells #[.int .i64 lt.off, .string lt.key, .string lt.text, .int .i64 lt.who, .int .i64 lt.time] 34))
  replace b3 := b3.alloc (.cells #[.int .i64 lt.off, .string lt.key, .string lt.text, .int .i64 lt.who, .int .i64 lt.time] 34)
  replace HT := hidP (HT.out.below (alloc0 (Below.refl _ _) (.cells #[.int .i64 lt.off, .string lt.key, .string lt.text, .int .i64 lt.who, .int .i64 lt.time] 34)))
  replace b8 := b8.alloc (.cells #[.int .i64 lt.off, .string lt.key, .string lt.text, .int .i64 lt.who, .int .i64 lt.time] 34)
  replace HS := hidP (HS.out.below (alloc0 (Below.refl _ _) (.cells #[.int .i64 lt.off, .string lt.key, .string lt.text, .int .i64 lt.who, .int .i64 lt.time] 34)))
  replace b11 := b11.alloc (.cells #[.int .i64 lt.off, .string lt.key, .string lt.text, .int .i64 lt.who, .int .i64 lt.time] 34)
  replace b16 := b16.alloc (.cells #[.int .i64 lt.off, .string lt.key, .string lt.text, .int .i64 lt.who, .int .i64 lt.time] 34)
  replace b18 := b18.alloc (.cells #[.int .i64 lt.off, .string lt.key, .string lt.text, .int .i64 lt.who, .int .i64 lt.time] 34)
  replace HY := hidP (HY.out.below (alloc0 (Below.refl _ _) (.cells #[.int .i64 lt.off, .string lt.key, .string lt.text, .int .i64 lt.who, .int .i64 lt.time] 34)))
  replace b20 := b20.alloc (.cells #[.int .i64 lt.off, .string lt.key, .string lt.text, .int .i64 lt.who, .int .i64 lt.time] 34)
  have b22 := Blk.new w8 34 #[.int .i64 lt.off, .string lt.key, .string lt.text, .int .i64 lt.who, .int .i64 lt.time]
  generalize w8.heap.size = M22 at *
  generalize w8.alloc (.cells #[.int .i64 lt.off, .string lt.key, .string lt.text, .int .i64 lt.who, .int .i64 lt.time] 34) = W8 at *
  refine (slat hlt his st7 nx7 a7 c7 (by omega) _ HY.out).mono ?_
  rintro e w9 ⟨rfl, g9⟩
  replace HL := hidP (HL.out.below g9)
  replace HB := hidP (via0 g9 HB.out)
  replace b3 := b3.below g9 b3.lt
  replace HT := hidP (HT.out.below g9)
  replace b8 := b8.below g9 b8.lt
  replace HS := hidP (HS.out.below g9)
  replace b11 := b11.below g9 b11.lt
  replace b16 := b16.below g9 b16.lt
  replace b18 := b18.below g9 b18.lt
  replace HY := hidP (HY.out.below g9)
  replace b20 := b20.below g9 b20.lt
  replace b22 := b22.below g9 b22.lt
  clear g9
  clear b20
  clear HY
  go_wp2_with fail
  replace HL := hidP (HL.out.below (alloc0 (Below.refl _ _) (.cells #[.int .i64 lt.off, .string lt.key, .string lt.text, .int .i64 lt.who, .int .i64 lt.time] 34)))
  replace HB := hidP (alloc0 HB.out (.cells #[.int .i64 lt.off, .string lt.key, .string lt.text, .int .i64 lt.who, .int .i64 lt.time] 34))
  replace b3 := b3.alloc (.cells #[.int .i64 lt.off, .string lt.key, .string lt.text, .int .i64 lt.who, .int .i64 lt.time] 34)
  replace HT := hidP (HT.out.below (alloc0 (Below.refl _ _) (.cells #[.int .i64 lt.off, .string lt.key, .string lt.text, .int .i64 lt.who, .int .i64 lt.time] 34)))
  replace b8 := b8.alloc (.cells #[.int .i64 lt.off, .string lt.key, .string lt.text, .int .i64 lt.who, .int .i64 lt.time] 34)
  replace HS := hidP (HS.out.below (alloc0 (Below.refl _ _) (.cells #[.int .i64 lt.off, .string lt.key, .string lt.text, .int .i64 lt.who, .int .i64 lt.time] 34)))
  replace b11 := b11.alloc (.cells #[.int .i64 lt.off, .string lt.key, .string lt.text, .int .i64 lt.who, .int .i64 lt.time] 34)
  replace b16 := b16.alloc (.cells #[.int .i64 lt.off, .string lt.key, .string lt.text, .int .i64 lt.who, .int .i64 lt.time] 34)
  replace b18 := b18.alloc (.cells #[.int .i64 lt.off, .string lt.key, .string lt.text, .int .i64 lt.who, .int .i64 lt.time] 34)
  replace b22 := b22.alloc (.cells #[.int .i64 lt.off, .string lt.key, .string lt.text, .int .i64 lt.who, .int .i64 lt.time] 34)
  have b24 := Blk.new w9 34 #[.int .i64 lt.off, .string lt.key, .string lt.text, .int .i64 lt.who, .int .i64 lt.time]
  generalize w9.heap.size = M24 at *
  generalize w9.alloc (.cells #[.int .i64 lt.off, .string lt.key, .string lt.text, .int .i64 lt.who, .int .i64 lt.time] 34) = W9 at *
  replace HL := hidP (HL.out.below (Below.drew (Below.refl _ _)))
  replace HB := hidP HB.out.drew
  replace b3 := b3.drew
  replace HT := hidP (HT.out.below (Below.drew (Below.refl _ _)))
  replace b8 := b8.drew
  replace HS := hidP (HS.out.below (Below.drew (Below.refl _ _)))
  replace b11 := b11.drew
  replace b16 := b16.drew
  replace b18 := b18.drew
  replace b22 := b22.drew
  replace b24 := b24.drew
  obtain ⟨rb, hrb⟩ : ∃ rb, Items.rowB start next L = rb := ⟨_, rfl⟩
  refine wp_region_noPanic ?_
  refine wp_region_held_drew (S := fun (w' : World) => (w'.cell? ⟨M3, 0, none⟩ = some (.int .i64 start) ∧ w'.cell? ⟨M3, 1, none⟩ = some (.int .i64 next) ∧ w'.cell? ⟨M3, 2, none⟩ = some (.slice a L.length c)) ∧ (w'.cell? ⟨M8, 0, none⟩ = some (.int .i64 start) ∧ w'.cell? ⟨M8, 1, none⟩ = some (.int .i64 N') ∧ w'.cell? ⟨M8, 2, none⟩ = some (.slice a2 L'.length c2)) ∧ (w'.cell? ⟨M11, 0, none⟩ = some (.int .i64 start) ∧ w'.cell? ⟨M11, 1, none⟩ = some (.int .i64 N') ∧ w'.cell? ⟨M11, 2, none⟩ = some (.slice a3 L'.length c3)) ∧ (w'.cell? ⟨M16, 0, none⟩ = some (.int .i64 it.off) ∧ w'.cell? ⟨M16, 1, none⟩ = some (.string it.key) ∧ w'.cell? ⟨M16, 2, none⟩ = some (.string it.text) ∧ w'.cell? ⟨M16, 3, none⟩ = some (.int .i64 it.who) ∧ w'.cell? ⟨M16, 4, none⟩ = some (.int .i64 it.time)) ∧ (w'.cell? ⟨M18, 0, none⟩ = some (.int .i64 it.off) ∧ w'.cell? ⟨M18, 1, none⟩ = some (.string it.key) ∧ w'.cell? ⟨M18, 2, none⟩ = some (.string it.text) ∧ w'.cell? ⟨M18, 3, none⟩ = some (.int .i64 it.who) ∧ w'.cell? ⟨M18, 4, none⟩ = some (.int .i64 it.time)) ∧ (w'.cell? ⟨M22, 0, none⟩ = some (.int .i64 lt.off) ∧ w'.cell? ⟨M22, 1, none⟩ = some (.string lt.key) ∧ w'.cell? ⟨M22, 2, none⟩ = some (.string lt.text) ∧ w'.cell? ⟨M22, 3, none⟩ = some (.int .i64 lt.who) ∧ w'.cell? ⟨M22, 4, none⟩ = some (.int .i64 lt.time)) ∧ (w'.cell? ⟨M24, 0, none⟩ = some (.int .i64 lt.off) ∧ w'.cell? ⟨M24, 1, none⟩ = some (.string lt.key) ∧ w'.cell? ⟨M24, 2, none⟩ = some (.string lt.text) ∧ w'.cell? ⟨M24, 3, none⟩ = some (.int .i64 lt.who) ∧ w'.cell? ⟨M24, 4, none⟩ = some (.int .i64 lt.time))) (by kernel_rfl) ?_ (fun hH => ?_)
  · exact ⟨b3.row3, b8.row3, b11.row3, b16.row5, b18.row5, b22.row5, b24.row5⟩
  refine' wpAnyH_take (i := 0) (v := _) rfl (by kernel_rfl) (by kernel_rfl) (by kernel_rfl) (fun _ _ _ h => h) (Or.inl ⟨by rfl, ?hy1⟩) (by assumption) ?rest1
  case hy1 => (intro w hSw; (try dsimp only at hSw); go_simp <;> with_reducible rfl)
  try simp only [Act.put, List.setIfInBounds_toArray, List.set_cons_zero, List.set_cons_succ, List.getElem_toArray, List.getElem_cons_succ, List.getElem_cons_zero]
  refine' wpAnyH_take (i := 1) (v := _) rfl (by kernel_rfl) (by kernel_rfl) (by kernel_rfl) (fun _ _ _ h => h) (Or.inl ⟨by rfl, ?hy2⟩) (by assumption) ?rest2
  case hy2 => (intro w hSw; (try dsimp only at hSw); go_simp <;> with_reducible rfl)
  try simp only [Act.put, List.setIfInBounds_toArray, List.set_cons_zero, List.set_cons_succ, List.getElem_toArray, List.getElem_cons_succ, List.getElem_cons_zero]
  refine' wpAnyH_take (i := 2) (v := _) rfl (by kernel_rfl) (by kernel_rfl) (by kernel_rfl) (fun _ _ _ h => h) (Or.inl ⟨by rfl, ?hy3⟩) (by assumption) ?rest3
  case hy3 => (intro w hSw; (try dsimp only at hSw); go_simp <;> with_reducible rfl)
  try simp only [Act.put, List.setIfInBounds_toArray, List.set_cons_zero, List.set_cons_succ, List.getElem_toArray, List.getElem_cons_succ, List.getElem_cons_zero]
  refine' wpAnyH_take (i := 3) (v := _) rfl (by kernel_rfl) (by kernel_rfl) (by kernel_rfl) (fun _ _ _ h => h) (Or.inl ⟨by rfl, ?hy4⟩) (by assumption) ?rest4
  case hy4 => (intro w hSw; (try dsimp only at hSw); go_simp <;> with_reducible rfl)
  try simp only [Act.put, List.setIfInBounds_toArray, List.set_cons_zero, List.set_cons_succ, List.getElem_toArray, List.getElem_cons_succ, List.getElem_cons_zero]
  refine' wpAnyH_take (i := 4) (v := _) rfl (by kernel_rfl) (by kernel_rfl) (by kernel_rfl) (fun _ _ _ h => h) (Or.inl ⟨by rfl, ?hy5⟩) (by assumption) ?rest5
  case hy5 => (intro w hSw; (try dsimp only at hSw); go_simp <;> with_reducible rfl)
  try simp only [Act.put, List.setIfInBounds_toArray, List.set_cons_zero, List.set_cons_succ, List.getElem_toArray, List.getElem_cons_succ, List.getElem_cons_zero]
  refine' wpAnyH_take (i := 5) (v := _) rfl (by kernel_rfl) (by kernel_rfl) (by kernel_rfl) (fun _ _ _ h => h) (Or.inl ⟨by rfl, ?hy6⟩) (by assumption) ?rest6
  case hy6 => (intro w hSw; (try dsimp only at hSw); go_simp <;> with_reducible rfl)
  try simp only [Act.put, List.setIfInBounds_toArray, List.set_cons_zero, List.set_cons_succ, List.getElem_toArray, List.getElem_cons_succ, List.getElem_cons_zero]
  refine' wpAnyH_take (i := 6) (v := _) rfl (by kernel_rfl) (by kernel_rfl) (by kernel_rfl) (fun _ _ _ h => h) (Or.inl ⟨by rfl, ?hy7⟩) (by assumption) ?rest7
  case hy7 => (intro w hSw; (try dsimp only at hSw); go_simp <;> with_reducible rfl)
  try simp only [Act.put, List.setIfInBounds_toArray, List.set_cons_zero, List.set_cons_succ, List.getElem_toArray, List.getElem_cons_succ, List.getElem_cons_zero]
  refine' wpAnyH_take (i := 7) (v := _) rfl (by kernel_rfl) (by kernel_rfl) (by kernel_rfl) (fun _ _ _ h => h) (Or.inl ⟨by rfl, ?hy8⟩) (by assumption) ?rest8
  case hy8 => (intro w hSw; (try dsimp only at hSw); go_simp <;> with_reducible rfl)
  try simp only [Act.put, List.setIfInBounds_toArray, List.set_cons_zero, List.set_cons_succ, List.getElem_toArray, List.getElem_cons_succ, List.getElem_cons_zero]
  refine' wpAnyH_take (i := 8) (v := _) rfl (by kernel_rfl) (by kernel_rfl) (by kernel_rfl) (fun _ _ _ h => h) (Or.inl ⟨by rfl, ?hy9⟩) (by assumption) ?rest9
  case hy9 => (intro w hSw; (try dsimp only at hSw); go_simp <;> with_reducible rfl)
  try simp only [Act.put, List.setIfInBounds_toArray, List.set_cons_zero, List.set_cons_succ, List.getElem_toArray, List.getElem_cons_succ, List.getElem_cons_zero]
  refine' wpAnyH_take (i := 9) (v := _) rfl (by kernel_rfl) (by kernel_rfl) (by kernel_rfl) (fun _ _ _ h => h) (Or.inl ⟨by rfl, ?hy10⟩) (by assumption) ?rest10
  case hy10 => (intro w hSw; (try dsimp only at hSw); go_simp <;> with_reducible rfl)
  try simp only [Act.put, List.setIfInBounds_toArray, List.set_cons_zero, List.set_cons_succ, List.getElem_toArray, List.getElem_cons_succ, List.getElem_cons_zero]
  refine' wpAnyH_take (i := 10) (v := _) rfl (by kernel_rfl) (by kernel_rfl) (by kernel_rfl) (fun _ _ _ h => h) (Or.inl ⟨by rfl, ?hy11⟩) (by assumption) ?rest11
  case hy11 => (intro w hSw; (try dsimp only at hSw); go_simp <;> with_reducible rfl)
  try simp only [Act.put, List.setIfInBounds_toArray, List.set_cons_zero, List.set_cons_succ, List.getElem_toArray, List.getElem_cons_succ, List.getElem_cons_zero]
  refine wpAnyH_ready (rs := [11]) (by kernel_rfl) (by simp) (AllReadyH.cons rfl (fun K hK => ?_) AllReadyH.nil)
  simp only [List.getElem_toArray, List.getElem_cons_succ, List.getElem_cons_zero]
  go_simp
  (go_at_call 18; refine (Items.same_row start N' a2 a3 c2 c3 L' (by omega) _ HT.out HS.out).mono ?_; rintro e w10 ⟨rfl, g10⟩; replace HL := hidP (HL.out.below g10); replace HB := hidP (via0 g10 HB.out); replace b3 := b3.below g10 b3.lt; replace HT := hidP (HT.out.below g10); replace b8 := b8.below g10 b8.lt; replace HS := hidP (HS.out.below g10); replace b11 := b11.below g10 b11.lt; replace b16 := b16.below g10 b16.lt; replace b18 := b18.below g10 b18.lt; replace b22 := b22.below g10 b22.lt; replace b24 := b24.below g10 b24.lt; clear g10)
  refine hK.out _ _ ?_ (fun hH => ?_)
  · exact ⟨b3.row3, b8.row3, b11.row3, b16.row5, b18.row5, b22.row5, b24.row5⟩
  clear hK K
  try simp only [Act.put, List.setIfInBounds_toArray, List.set_cons_zero, List.set_cons_succ, List.getElem_toArray, List.getElem_cons_succ, List.getElem_cons_zero]
  refine' wpAnyH_take (i := 12) (v := _) rfl (by kernel_rfl) (by kernel_rfl) (by kernel_rfl) (fun _ _ _ h => h) (Or.inl ⟨by rfl, ?hy12⟩) (by assumption) ?rest12
  case hy12 => (intro w hSw; (try dsimp only at hSw); go_simp <;> with_reducible rfl)
  try simp only [Act.put, List.setIfInBounds_toArray, List.set_cons_zero, List.set_cons_succ, List.getElem_toArray, List.getElem_cons_succ, List.getElem_cons_zero]
  refine' wpAnyH_take (i := 13) (v := _) rfl (by kernel_rfl) (by kernel_rfl) (by kernel_rfl) (fun _ _ _ h => h) (Or.inl ⟨by rfl, ?hy13⟩) (by assumption) ?rest13
  case hy13 => (intro w hSw; (try dsimp only at hSw); go_simp <;> with_reducible rfl)
  try simp only [Act.put, List.setIfInBounds_toArray, List.set_cons_zero, List.set_cons_succ, List.getElem_toArray, List.getElem_cons_succ, List.getElem_cons_zero]
  refine' wpAnyH_take (i := 14) (v := _) rfl (by kernel_rfl) (by kernel_rfl) (by kernel_rfl) (fun _ _ _ h => h) (Or.inl ⟨by rfl, ?hy14⟩) (by assumption) ?rest14
  case hy14 => (intro w hSw; (try dsimp only at hSw); go_simp <;> with_reducible rfl)
  try simp only [Act.put, List.setIfInBounds_toArray, List.set_cons_zero, List.set_cons_succ, List.getElem_toArray, List.getElem_cons_succ, List.getElem_cons_zero]
  refine' wpAnyH_take (i := 15) (v := _) rfl (by kernel_rfl) (by kernel_rfl) (by kernel_rfl) (fun _ _ _ h => h) (Or.inl ⟨by rfl, ?hy15⟩) (by assumption) ?rest15
  case hy15 => (intro w hSw; (try dsimp only at hSw); go_simp <;> with_reducible rfl)
  try simp only [Act.put, List.setIfInBounds_toArray, List.set_cons_zero, List.set_cons_succ, List.getElem_toArray, List.getElem_cons_succ, List.getElem_cons_zero]
  refine' wpAnyH_take (i := 16) (v := _) rfl (by kernel_rfl) (by kernel_rfl) (by kernel_rfl) (fun _ _ _ h => h) (Or.inl ⟨by rfl, ?hy16⟩) (by assumption) ?rest16
  case hy16 => (intro w hSw; (try dsimp only at hSw); go_simp <;> with_reducible rfl)
  try simp only [Act.put, List.setIfInBounds_toArray, List.set_cons_zero, List.set_cons_succ, List.getElem_toArray, List.getElem_cons_succ, List.getElem_cons_zero]
  refine' wpAnyH_take (i := 17) (v := _) rfl (by kernel_rfl) (by kernel_rfl) (by kernel_rfl) (fun _ _ _ h => h) (Or.inl ⟨by rfl, ?hy17⟩) (by assumption) ?rest17
  case hy17 => (intro w hSw; (try dsimp only at hSw); go_simp <;> with_reducible rfl)
  try simp only [Act.put, List.setIfInBounds_toArray, List.set_cons_zero, List.set_cons_succ, List.getElem_toArray, List.getElem_cons_succ, List.getElem_cons_zero]
  refine' wpAnyH_take (i := 18) (v := _) rfl (by kernel_rfl) (by kernel_rfl) (by kernel_rfl) (fun _ _ _ h => h) (Or.inl ⟨by rfl, ?hy18⟩) (by assumption) ?rest18
  case hy18 => (intro w hSw; (try dsimp only at hSw); go_simp <;> with_reducible rfl)
  try simp only [Act.put, List.setIfInBounds_toArray, List.set_cons_zero, List.set_cons_succ, List.getElem_toArray, List.getElem_cons_succ, List.getElem_cons_zero]
  refine' wpAnyH_take (i := 19) (v := _) rfl (by kernel_rfl) (by kernel_rfl) (by kernel_rfl) (fun _ _ _ h => h) (Or.inl ⟨by rfl, ?hy19⟩) (by assumption) ?rest19
  case hy19 => (intro w hSw; (try dsimp only at hSw); go_simp <;> with_reducible rfl)
  try simp only [Act.put, List.setIfInBounds_toArray, List.set_cons_zero, List.set_cons_succ, List.getElem_toArray, List.getElem_cons_succ, List.getElem_cons_zero]
  refine' wpAnyH_take (i := 20) (v := _) rfl (by kernel_rfl) (by kernel_rfl) (by kernel_rfl) (fun _ _ _ h => h) (Or.inl ⟨by rfl, ?hy20⟩) (by assumption) ?rest20
  case hy20 => (intro w hSw; (try dsimp only at hSw); go_simp <;> with_reducible rfl)
  try simp only [Act.put, List.setIfInBounds_toArray, List.set_cons_zero, List.set_cons_succ, List.getElem_toArray, List.getElem_cons_succ, List.getElem_cons_zero]
  refine' wpAnyH_take (i := 21) (v := _) rfl (by kernel_rfl) (by kernel_rfl) (by kernel_rfl) (fun _ _ _ h => h) (Or.inl ⟨by rfl, ?hy21⟩) (by assumption) ?rest21
  case hy21 => (intro w hSw; (try dsimp only at hSw); go_simp <;> with_reducible rfl)
  try simp only [Act.put, List.setIfInBounds_toArray, List.set_cons_zero, List.set_cons_succ, List.getElem_toArray, List.getElem_cons_succ, List.getElem_cons_zero]
  refine' wpAnyH_take (i := 22) (v := _) rfl (by kernel_rfl) (by kernel_rfl) (by kernel_rfl) (fun _ _ _ h => h) (Or.inl ⟨by rfl, ?hy22⟩) (by assumption) ?rest22
  case hy22 => (intro w hSw; (try dsimp only at hSw); go_simp <;> with_reducible rfl)
  try simp only [Act.put, List.setIfInBounds_toArray, List.set_cons_zero, List.set_cons_succ, List.getElem_toArray, List.getElem_cons_succ, List.getElem_cons_zero]
  refine' wpAnyH_take (i := 23) (v := _) rfl (by kernel_rfl) (by kernel_rfl) (by kernel_rfl) (fun _ _ _ h => h) (Or.inl ⟨by rfl, ?hy23⟩) (by assumption) ?rest23
  case hy23 => (intro w hSw; (try dsimp only at hSw); go_simp <;> with_reducible rfl)
  try simp only [Act.put, List.setIfInBounds_toArray, List.set_cons_zero, List.set_cons_succ, List.getElem_toArray, List.getElem_cons_succ, List.getElem_cons_zero]
  refine' wpAnyH_take (i := 24) (v := _) rfl (by kernel_rfl) (by kernel_rfl) (by kernel_rfl) (fun _ _ _ h => h) (Or.inl ⟨by rfl, ?hy24⟩) (by assumption) ?rest24
  case hy24 => (intro w hSw; (try dsimp only at hSw); go_simp <;> with_reducible rfl)
  try simp only [Act.put, List.setIfInBounds_toArray, List.set_cons_zero, List.set_cons_succ, List.getElem_toArray, List.getElem_cons_succ, List.getElem_cons_zero]
  refine' wpAnyH_take (i := 25) (v := _) rfl (by kernel_rfl) (by kernel_rfl) (by kernel_rfl) (fun _ _ _ h => h) (Or.inl ⟨by rfl, ?hy25⟩) (by assumption) ?rest25
  case hy25 => (intro w hSw; (try dsimp only at hSw); go_simp <;> with_reducible rfl)
  try simp only [Act.put, List.setIfInBounds_toArray, List.set_cons_zero, List.set_cons_succ, List.getElem_toArray, List.getElem_cons_succ, List.getElem_cons_zero]
  refine' wpAnyH_take (i := 26) (v := _) rfl (by kernel_rfl) (by kernel_rfl) (by kernel_rfl) (fun _ _ _ h => h) (Or.inl ⟨by rfl, ?hy26⟩) (by assumption) ?rest26
  case hy26 => (intro w hSw; (try dsimp only at hSw); go_simp <;> with_reducible rfl)
  try simp only [Act.put, List.setIfInBounds_toArray, List.set_cons_zero, List.set_cons_succ, List.getElem_toArray, List.getElem_cons_succ, List.getElem_cons_zero]
  refine' wpAnyH_take (i := 27) (v := _) rfl (by kernel_rfl) (by kernel_rfl) (by kernel_rfl) (fun _ _ _ h => h) (Or.inl ⟨by rfl, ?hy27⟩) (by assumption) ?rest27
  case hy27 => (intro w hSw; (try dsimp only at hSw); go_simp <;> with_reducible rfl)
  try simp only [Act.put, List.setIfInBounds_toArray, List.set_cons_zero, List.set_cons_succ, List.getElem_toArray, List.getElem_cons_succ, List.getElem_cons_zero]
  refine' wpAnyH_take (i := 28) (v := _) rfl (by kernel_rfl) (by kernel_rfl) (by kernel_rfl) (fun _ _ _ h => h) (Or.inl ⟨by rfl, ?hy28⟩) (by assumption) ?rest28
  case hy28 => (intro w hSw; (try dsimp only at hSw); go_simp <;> with_reducible rfl)
  try simp only [Act.put, List.setIfInBounds_toArray, List.set_cons_zero, List.set_cons_succ, List.getElem_toArray, List.getElem_cons_succ, List.getElem_cons_zero]
  refine' wpAnyH_take (i := 29) (v := _) rfl (by kernel_rfl) (by kernel_rfl) (by kernel_rfl) (fun _ _ _ h => h) (Or.inl ⟨by rfl, ?hy29⟩) (by assumption) ?rest29
  case hy29 => (intro w hSw; (try dsimp only at hSw); go_simp <;> with_reducible rfl)
  try simp only [Act.put, List.setIfInBounds_toArray, List.set_cons_zero, List.set_cons_succ, List.getElem_toArray, List.getElem_cons_succ, List.getElem_cons_zero]
  refine' wpAnyH_take (i := 30) (v := _) rfl (by kernel_rfl) (by kernel_rfl) (by kernel_rfl) (fun _ _ _ h => h) (Or.inl ⟨by rfl, ?hy30⟩) (by assumption) ?rest30
  case hy30 => (intro w hSw; (try dsimp only at hSw); go_simp <;> with_reducible rfl)
  try simp only [Act.put, List.setIfInBounds_toArray, List.set_cons_zero, List.set_cons_succ, List.getElem_toArray, List.getElem_cons_succ, List.getElem_cons_zero]
  refine' wpAnyH_take (i := 31) (v := _) rfl (by kernel_rfl) (by kernel_rfl) (by kernel_rfl) (fun _ _ _ h => h) (Or.inl ⟨by rfl, ?hy31⟩) (by assumption) ?rest31
  case hy31 => (intro w hSw; (try dsimp only at hSw); go_simp <;> with_reducible rfl)
  try simp only [Act.put, List.setIfInBounds_toArray, List.set_cons_zero, List.set_cons_succ, List.getElem_toArray, List.getElem_cons_succ, List.getElem_cons_zero]
  refine' wpAnyH_take (i := 32) (v := _) rfl (by kernel_rfl) (by kernel_rfl) (by kernel_rfl) (fun _ _ _ h => h) (Or.inl ⟨by rfl, ?hy32⟩) (by assumption) ?rest32
  case hy32 => (intro w hSw; (try dsimp only at hSw); go_simp <;> with_reducible rfl)
  try simp only [Act.put, List.setIfInBounds_toArray, List.set_cons_zero, List.set_cons_succ, List.getElem_toArray, List.getElem_cons_succ, List.getElem_cons_zero]
  refine' wpAnyH_take (i := 33) (v := _) rfl (by kernel_rfl) (by kernel_rfl) (by kernel_rfl) (fun _ _ _ h => h) (Or.inl ⟨by rfl, ?hy33⟩) (by assumption) ?rest33
  case hy33 => (intro w hSw; (try dsimp only at hSw); go_simp <;> with_reducible rfl)
  try simp only [Act.put, List.setIfInBounds_toArray, List.set_cons_zero, List.set_cons_succ, List.getElem_toArray, List.getElem_cons_succ, List.getElem_cons_zero]
  refine' wpAnyH_take (i := 34) (v := _) rfl (by kernel_rfl) (by kernel_rfl) (by kernel_rfl) (fun _ _ _ h => h) (Or.inl ⟨by rfl, ?hy34⟩) (by assumption) ?rest34
  case hy34 => (intro w hSw; (try dsimp only at hSw); go_simp <;> with_reducible rfl)
  try simp only [Act.put, List.setIfInBounds_toArray, List.set_cons_zero, List.set_cons_succ, List.getElem_toArray, List.getElem_cons_succ, List.getElem_cons_zero]
  refine' wpAnyH_take (i := 35) (v := _) rfl (by kernel_rfl) (by kernel_rfl) (by kernel_rfl) (fun _ _ _ h => h) (Or.inl ⟨by rfl, ?hy35⟩) (by assumption) ?rest35
  case hy35 => (intro w hSw; (try dsimp only at hSw); go_simp <;> with_reducible rfl)
  try simp only [Act.put, List.setIfInBounds_toArray, List.set_cons_zero, List.set_cons_succ, List.getElem_toArray, List.getElem_cons_succ, List.getElem_cons_zero]
  refine' wpAnyH_take (i := 37) (v := _) rfl (by kernel_rfl) (by kernel_rfl) (by kernel_rfl) (fun _ _ _ h => h) (Or.inl ⟨by rfl, ?hy36⟩) (by assumption) ?rest36
  case hy36 => (intro w hSw; (try dsimp only at hSw); go_simp <;> with_reducible rfl)
  try simp only [Act.put, List.setIfInBounds_toArray, List.set_cons_zero, List.set_cons_succ, List.getElem_toArray, List.getElem_cons_succ, List.getElem_cons_zero]
  refine wpAnyH_ready (rs := [36]) (by kernel_rfl) (by simp) (AllReadyH.cons rfl (fun K hK => ?_) AllReadyH.nil)
  simp only [List.getElem_toArray, List.getElem_cons_succ, List.getElem_cons_zero]
  go_simp
  (go_at_call 19; refine (ok_is hrb a c (by omega) hsz _ HL.out).mono ?_; rintro e w11 ⟨rfl, g11⟩; replace HL := hidP (HL.out.below g11); replace HB := hidP (via0 g11 HB.out); replace b3 := b3.below g11 b3.lt; replace HT := hidP (HT.out.below g11); replace b8 := b8.below g11 b8.lt; replace HS := hidP (HS.out.below g11); replace b11 := b11.below g11 b11.lt; replace b16 := b16.below g11 b16.lt; replace b18 := b18.below g11 b18.lt; replace b22 := b22.below g11 b22.lt; replace b24 := b24.below g11 b24.lt; clear g11)
  refine hK.out _ _ ?_ (fun hH => ?_)
  · exact ⟨b3.row3, b8.row3, b11.row3, b16.row5, b18.row5, b22.row5, b24.row5⟩
  clear hK K
  try simp only [Act.put, List.setIfInBounds_toArray, List.set_cons_zero, List.set_cons_succ, List.getElem_toArray, List.getElem_cons_succ, List.getElem_cons_zero]
  refine wpAnyH_ready (rs := [38]) (by kernel_rfl) (by simp) (AllReadyH.cons rfl (fun K hK => ?_) AllReadyH.nil)
  simp only [List.getElem_toArray, List.getElem_cons_succ, List.getElem_cons_zero]
  go_simp
  (go_at_call 20; refine (sok_is hrb hi2 a c (by omega) hsz _ HL.out).mono ?_; rintro e w12 ⟨rfl, g12⟩; replace HL := hidP (HL.out.below g12); replace HB := hidP (via0 g12 HB.out); replace b3 := b3.below g12 b3.lt; replace HT := hidP (HT.out.below g12); replace b8 := b8.below g12 b8.lt; replace HS := hidP (HS.out.below g12); replace b11 := b11.below g12 b11.lt; replace b16 := b16.below g12 b16.lt; replace b18 := b18.below g12 b18.lt; replace b22 := b22.below g12 b22.lt; replace b24 := b24.below g12 b24.lt; clear g12)
  refine hK.out _ _ ?_ (fun hH => ?_)
  · exact ⟨b3.row3, b8.row3, b11.row3, b16.row5, b18.row5, b22.row5, b24.row5⟩
  clear hK K
  try simp only [Act.put, List.setIfInBounds_toArray, List.set_cons_zero, List.set_cons_succ, List.getElem_toArray, List.getElem_cons_succ, List.getElem_cons_zero]
  refine' wpAnyH_take (i := 39) (v := _) rfl (by kernel_rfl) (by kernel_rfl) (by kernel_rfl) (fun _ _ _ h => h) (Or.inl ⟨by rfl, ?hy37⟩) (by assumption) ?rest37
  case hy37 => (intro w hSw; (try dsimp only at hSw); go_simp <;> with_reducible rfl)
  try simp only [Act.put, List.setIfInBounds_toArray, List.set_cons_zero, List.set_cons_succ, List.getElem_toArray, List.getElem_cons_succ, List.getElem_cons_zero]
  refine' wpAnyH_take (i := 40) (v := _) rfl (by kernel_rfl) (by kernel_rfl) (by kernel_rfl) (fun _ _ _ h => h) (Or.inl ⟨by rfl, ?hy38⟩) (by assumption) ?rest38
  case hy38 => (intro w hSw; (try dsimp only at hSw); go_simp <;> with_reducible rfl)
  try simp only [Act.put, List.setIfInBounds_toArray, List.set_cons_zero, List.set_cons_succ, List.getElem_toArray, List.getElem_cons_succ, List.getElem_cons_zero]
  refine wpAnyH_done (by kernel_rfl) ?_ _
  refine NoPanic.normal ?_
  clear hH
  clear b11
  clear HS
  clear b16
  clear b18
  clear b22
  clear b24
  cases P'
  · obtain ⟨e1, e2, e3, e4⟩ := hans
    simp only [Items.putN, Items.putL, e3, if_false, Bool.false_eq_true] at e1 e4
    subst e1 e4
    clear e2 e3
    obtain ⟨s0, s1, s2⟩ := b3.row3
    obtain ⟨t0, t1, t2⟩ := b8.row3
    go_wp2_with fail
    refine (Items.same_row start next a2 a c2 c L (by omega) _ HT.out HL.out).mono ?_
    rintro e w13 ⟨rfl, g13⟩
    go_wp2
    go_ret
    exact ⟨rfl, via0 g13 HB.out⟩
  · obtain ⟨e1, e2, e3, e4⟩ := hans
    obtain ⟨hw, hs0, hs1, hn1, hrow, ⟨hgi, hgh⟩, hstay⟩ := Items.put_facts (x := ⟨next, key, text, who, time⟩) rfl e3
    simp only [Items.putN, Items.putO, Items.putL, e3, if_true, hw] at e1 e2 e4
    subst e1 e2
    rw [e4] at hrow hgi hgh hstay
    have Hstay := hidP hstay
    have hszT : Sizes L' := Items.right_sizes hrow
    clear hstay e3 e4 hw
    obtain ⟨t0, t1, t2⟩ := b8.row3
    go_wp2_with fail
    clear t0 t1 t2
    refine (iget hgi hgh (next + 1) a2 c2 (by omega) _ HT.out).mono ?_
    rintro e w13 ⟨rfl, g13⟩
    replace HL := hidP (HL.out.below g13)
    replace HB := hidP (via0 g13 HB.out)
    replace b3 := b3.below g13 b3.lt
    replace HT := hidP (HT.out.below g13)
    replace b8 := b8.below g13 b8.lt
    clear g13
    obtain ⟨s0, s1, s2⟩ := b3.row3
    obtain ⟨t0, t1, t2⟩ := b8.row3
    have q3 := b3.lt
    have q8 := b8.lt
    go_wp2_with fail
    go_loopw [28] (fun i W => ∃ z : Int, i = .int .i64 z ∧ start ≤ z ∧ z ≤ 100001 ∧ Hid (Blk W M3 26 #[.int .i64 start, .int .i64 next, .slice a L.length c]) ∧ Hid (Blk W M8 26 #[.int .i64 start, .int .i64 (next + 1), .slice a2 L'.length c2]) ∧ Hid (Items.At W a L) ∧ Hid (Items.At W a2 L') ∧ Hid (Below w0.heap.size w0 W)) (fun i _ => (next - intOf i).toNat)
    case atStart => exact ⟨start, rfl, by omega, by omega, b3.alloc _, b8.alloc _, HL.out.below (alloc0 (Below.refl _ _) _), HT.out.below (alloc0 (Below.refl _ _) _), alloc0 HB.out _⟩
    case round =>
      clear b3 b8 HL HT HB s0 s1 s2 t0 t1 t2 q3 q8
      obtain ⟨z, rfl, hz0, hz1, b3', b8', HL, HT, HB⟩ := hrel
      have b3 := b3'.out
      have b8 := b8'.out
      clear b3' b8'
      obtain ⟨s0, s1, s2⟩ := b3.row3
      obtain ⟨t0, t1, t2⟩ := b8.row3
      have q3 := b3.lt
      have q8 := b8.lt
      by_cases hzn : z < next
      case neg =>
        have dz : decide (z < next) = false := decide_eq_false hzn
        go_wp2_with fail
        refine (ok_is hrow a2 c2 (by omega) hszT _ HT.out).mono ?_
        rintro e w14 ⟨rfl, g14⟩
        go_wp2
        go_ret
        exact ⟨rfl, via0 g14 HB.out⟩
      by_cases hzh : z < 100
      case neg =>
        have dz : decide (z < 100) = false := decide_eq_false hzh
        go_wp2_with fail
        refine (ok_is hrow a2 c2 (by omega) hszT _ HT.out).mono ?_
        rintro e w14 ⟨rfl, g14⟩
        go_wp2
        go_ret
        exact ⟨rfl, via0 g14 HB.out⟩
      obtain ⟨u, one, hu, hone⟩ : ∃ u one, Items.getIt start L z = u ∧ Items.getHow start L z = one := ⟨_, _, rfl, rfl⟩
      go_wp2_with fail
      refine (iget hu hone next a c (by omega) _ HL.out).mono ?_
      rintro e w14 ⟨rfl, g14⟩
      replace HL := hidP (HL.out.below g14)
      replace HB := hidP (via0 g14 HB.out)
      replace b3 := b3.below g14 b3.lt
      replace HT := hidP (HT.out.below g14)
      replace b8 := b8.below g14 b8.lt
      clear g14 s0 s1 s2 t0 t1 t2 q3 q8
      obtain ⟨t0, t1, t2⟩ := b8.row3
      have q8 := b8.lt
      by_cases h1 : one = 0
      · subst h1
        obtain ⟨k1, k2⟩ := Hstay.out z hone
        rw [hu] at k2
        go_wp2_with fail
        replace HL := hidP (HL.out.below (alloc0 (Below.refl _ _) (.cells #[.int .i64 u.off, .string u.key, .string u.text, .int .i64 u.who, .int .i64 u.time] 34)))
        replace HB := hidP (alloc0 HB.out (.cells #[.int .i64 u.off, .string u.key, .string u.text, .int .i64 u.who, .int .i64 u.time] 34))
        replace b3 := b3.alloc (.cells #[.int .i64 u.off, .string u.key, .string u.text, .int .i64 u.who, .int .i64 u.time] 34)
        replace HT := hidP (HT.out.below (alloc0 (Below.refl _ _) (.cells #[.int .i64 u.off, .string u.key, .string u.text, .int .i64 u.who, .int .i64 u.time] 34)))
        replace b8 := b8.alloc (.cells #[.int .i64 u.off, .string u.key, .string u.text, .int .i64 u.who, .int .i64 u.time] 34)
        refine (iget k2 k1 (next + 1) a2 c2 (by omega) _ HT.out).mono ?_
        rintro e w15 ⟨rfl, g15⟩
        replace HL := hidP (HL.out.below g15)
        replace HB := hidP (via0 g15 HB.out)
        replace b3 := b3.below g15 b3.lt
        replace HT := hidP (HT.out.below g15)
        replace b8 := b8.below g15 b8.lt
        have bu := (Blk.new w14 34 #[.int .i64 u.off, .string u.key, .string u.text, .int .i64 u.who, .int .i64 u.time]).below g15 (by simp)
        have qu := bu.lt
        obtain ⟨u0, u1, u2, u3, u4⟩ := bu.row5
        clear g15
        go_wp2
        refine ⟨⟨z + 1, by go_num, by omega, by omega, ?_, ?_, ?_, ?_, ?_⟩, by simp [intOf]; omega⟩
        · exact b3.alloc _
        · exact b8.alloc _
        · exact HL.out.below (alloc0 (Below.refl _ _) _)
        · exact HT.out.below (alloc0 (Below.refl _ _) _)
        · exact alloc0 HB.out _
      · have h1' : (one == 0) = false := by simpa using h1
        have h1d : decide (one = 0) = false := decide_eq_false h1
        obtain ⟨u', two, k2, k1⟩ : ∃ u two, Items.getIt start L' z = u ∧ Items.getHow start L' z = two := ⟨_, _, rfl, rfl⟩
        go_wp2_with fail
        replace HL := hidP (HL.out.below (alloc0 (Below.refl _ _) (.cells #[.int .i64 u.off, .string u.key, .string u.text, .int .i64 u.who, .int .i64 u.time] 34)))
        replace HB := hidP (alloc0 HB.out (.cells #[.int .i64 u.off, .string u.key, .string u.text, .int .i64 u.who, .int .i64 u.time] 34))
        replace b3 := b3.alloc (.cells #[.int .i64 u.off, .string u.key, .string u.text, .int .i64 u.who, .int .i64 u.time] 34)
        replace HT := hidP (HT.out.below (alloc0 (Below.refl _ _) (.cells #[.int .i64 u.off, .string u.key, .string u.text, .int .i64 u.who, .int .i64 u.time] 34)))
        replace b8 := b8.alloc (.cells #[.int .i64 u.off, .string u.key, .string u.text, .int .i64 u.who, .int .i64 u.time] 34)
        refine (iget k2 k1 (next + 1) a2 c2 (by omega) _ HT.out).mono ?_
        rintro e w15 ⟨rfl, g15⟩
        replace HL := hidP (HL.out.below g15)
        replace HB := hidP (via0 g15 HB.out)
        replace b3 := b3.below g15 b3.lt
        replace HT := hidP (HT.out.below g15)
        replace b8 := b8.below g15 b8.lt
        have bu := (Blk.new w14 34 #[.int .i64 u.off, .string u.key, .string u.text, .int .i64 u.who, .int .i64 u.time]).below g15 (by simp)
        have qu := bu.lt
        obtain ⟨u0, u1, u2, u3, u4⟩ := bu.row5
        clear g15
        go_wp2
        refine ⟨⟨z + 1, by go_num, by omega, by omega, ?_, ?_, ?_, ?_, ?_⟩, by simp [intOf]; omega⟩
        · exact b3.alloc _
        · exact b8.alloc _
        · exact HL.out.below (alloc0 (Below.refl _ _) _)
        · exact HT.out.below (alloc0 (Below.refl _ _) _)
        · exact alloc0 HB.out _
theorem cellsU8 : Try.prog.cellsOf 5 = 1 := by kernel_rfl
theorem openBy {H : Type} {enc : TypeId × Value → H} {w : World} {base n : Nat} {spare : Nat → Bool} {held : Bool} {a : Addr} {cs : List Value} {y : DataW H × List MemPlace}
    (h1 : w.cells? base a 1 = some cs) (h2 : DataW.trod enc Try.prog w base spare held n 5 cs = some y) :
    ∃ x : By, x.right ∧ a.spot = none ∧ a.block < w.heap.size ∧ ∀ j v, (Cel.cs x)[j]? = some v → w.cell? ⟨a.block, a.off + j, none⟩ = some v := by
  obtain ⟨_, hlen, hc⟩ := World.cells?_some h1
  match cs, hlen with
  | [c0], _ =>
    obtain ⟨x, e0, _, w0⟩ := DataW.trod_int Try.underlying5 h2
    simp at e0
    subst e0
    have q0 := hc 0 (by omega)
    have hsp : a.spot = none := by
      cases hs : a.spot with
      | none => rfl
      | some s => exfalso; simp [Addr.add, World.cell?, hs] at q0; split at q0 <;> simp at q0
    have hlt : a.block < w.heap.size := by
      rw [show a.add 0 = a from rfl] at q0
      unfold World.cell? at q0
      cases hh : w.heap[a.block]? with
      | none => simp [hh] at q0
      | some ob => exact (Array.getElem?_eq_some_iff.1 hh).1
    refine ⟨⟨x⟩, by simpa [By.right, Lit.wf, IntKind.min, IntKind.max, IntKind.signed, IntKind.bits] using w0, hsp, hlt, ?_⟩
    intro j v hv
    have hj : j < 1 := (List.getElem?_eq_some_iff.1 hv).1
    have q := hc j hj
    have e : a.add j = ⟨a.block, a.off + j, none⟩ := by
      obtain ⟨b, o, s⟩ := a
      simp only at hsp
      subst hsp
      exact Addr.add_mid b o j
    rw [e] at q
    rw [q]
    exact hv
set_option maxRecDepth 100000 in
theorem openBytes {H : Type} {enc : TypeId × Value → H} {W : World} {base b0 : Nat} {r : Reach} {spare : Nat → Bool} {held : Bool} {v : Value} {d : DataW H} {p : List MemPlace}
    (hv : Value.okWide Try.prog W r b0 22 v) (h : DataW.Trod enc Try.prog W base spare held 22 v d p) :
    ∃ (A : Option Addr) (cap : Nat) (l : List By), v = .slice A l.length cap ∧ l.length ≤ 9223372036854775807 ∧ (∀ x ∈ l, x.right) ∧ At W A l := by
  obtain ⟨a0, len0, cap0, rfl⟩ := okWide_slice Try.underlying22 hv
  obtain ⟨n, g⟩ := h
  rcases open_slice Try.underlying22 g with ⟨e2, _⟩ | ⟨a, len, cap, m, n', D, Pl, e2, _, hl, hm, hmm, _, hx⟩
  · simp [Value.cells] at e2
    obtain ⟨rfl, rfl, rfl⟩ := e2
    exact ⟨none, 0, [], rfl, by simp, by simp, .inl rfl⟩
  · simp [Value.cells] at e2
    obtain ⟨rfl, rfl, rfl⟩ := e2
    have hle : len0 ≤ m := by rw [hmm]; split <;> omega
    rw [cellsU8] at hx
    obtain ⟨X, hX⟩ := choose_lt (α := By) (p := fun i x => x.right ∧ (a.add (i * 1)).spot = none ∧ (a.add (i * 1)).block < W.heap.size ∧ ∀ j v, (Cel.cs x)[j]? = some v → W.cell? ⟨(a.add (i * 1)).block, (a.add (i * 1)).off + j, none⟩ = some v)
      (n := len0) (fun i hi => by obtain ⟨cs', h1, h2⟩ := hx i (by omega); exact openBy h1 h2)
    obtain ⟨l, rfl, hR, hat⟩ := at_of (α := By) (by decide) (R := By.right) hX
    exact ⟨some a, cap0, l, rfl, by simp [maxLen] at hm ⊢; omega, hR, hat⟩

set_option maxRecDepth 100000 in
theorem contract (H : Type) (enc : TypeId × Value → H) (W : World) (base : Nat) (args : Array Value) (ds gs : List (DataW H)) (before : List MemPlace)
    (hval : ∀ (j : Nat) t v, Try.f3.params[j]? = some t → args[j]? = some v → Value.okWide Try.prog W .any base t v)
    (hW : DataW.Whole enc Try.prog Try.f3.params.toList Rows.fnRowsSpec.vars false W args.toList ds gs before) :
    Calls Try.prog 3 args W fun e W' => ∃ v, e = .returned v ∧ Rows.fnRowsSpec.post enc Try.prog Try.f3 false true false false W args v W' := by
  have hW' := hW
  obtain ⟨p, q, hA0, hV, rfl, hfz, hnd⟩ := hW
  have hA : DataW.TrodAll enc Try.prog W 0 (fun _ => true) true Try.f3.params.toList args.toList ds p := hA0
  rw [Try.params3] at hA hval
  obtain ⟨v0, vs0, d0, ds0, p0, q0, e0, rfl, rfl, h0, r0⟩ := trodAll_cons hA
  obtain ⟨rfl, rfl, rfl⟩ := trodAll_nil r0
  have e0' : args = #[v0] := by cases args; simp_all
  subst e0'
  obtain ⟨rfl, rfl⟩ := trodVars_none hV
  obtain ⟨A, cap, l, rfl, hl, hby, hat⟩ := openBytes (hval 0 22 v0 rfl rfl) h0
  refine (law_any A cap l hl hby W hat).mono fun e W' ⟨he, hb⟩ => ?_
  subst he
  exact ⟨_, rfl, post_true laidOut (by kernel_rfl) (by kernel_rfl) Try.underlying4 rfl rfl hW' hb⟩

set_option maxRecDepth 100000 in
theorem lifted (os : Os) (started : os.Started) (H : Type) (enc : TypeId × Value → H) :
    ReturnsInHanded {} Try.checked os 3 .any (Rows.fnRowsSpec.pre6 enc Try.prog Try.f3 Rows.fnRowsRow.domain false) (Rows.fnRowsSpec.post enc Try.prog Try.f3 false true false false) := by
  refine returnsInHanded_of_change (C := Try.checked) own started (by kernel_rfl) Try.func3
    (ChangeSpec.witness6 (enc := enc) (C := Try.checked) false ⟨#[], #[.slice none 0 0], []⟩ 8 (by kernel_rfl) (by kernel_rfl) (by kernel_rfl) (by kernel_rfl)) ?_
  intro W base args ds gs before hval0 hW _ _
  exact contract H enc W base args ds gs before hval0 hW

theorem proved : Rows.FnRowsSaid :=
  OpenClaim.holds_of_wide 3 Try.f3 rfl rfl rfl rfl rfl rfl rfl ⟨rfl, rfl, rfl, rfl, rfl⟩ rfl rfl rfl rfl rfl (by kernel_rfl) Try.func3 (by kernel_rfl)
    (of_decide_eq_true (by kernel_rfl)) (by unfold Func.isWrapper; first | (rw [if_pos (by decide +kernel)]; kernel_rfl) | (rw [if_neg (by decide +kernel)]; exact ⟨rfl, rfl⟩))
    (fun os started H enc _ => lifted os started H enc)
end Go.Proofs.Ytnmbbkagjpmhdaa.Rows_
namespace Go.Proofs.Ytnmbbkagjpmhdaa
theorem rows_holds : Rows.FnRowsSaid := Rows_.proved
end Go.Proofs.Ytnmbbkagjpmhdaa
