/-
  FnExactLogPut: at every input the program's answer is the specification's, entry by entry; what it was handed stays as it was; its answer owns its memory. No condition.
-/
import Derived.Test.YteccgpakhbogpaaLogV
import Derived.Test.YteccgpakhbogpaaLPut5
import Derived.Test.YteccgpakhbogpaaLogM
import Derived.ChangeMaps5
namespace Go.Proofs.Yteccgpakhbogpaa.LogPut
open Go.ChangeShapes Go.WideShapes Go.ChangeAt Go.RowKit Go.Joins Go.Deep Base Gen
set_option linter.unusedVariables false

theorem own : ownKnob Try.prog.godebug = none := by kernel_rfl
theorem laidOut : laidOutB Try.prog = true := by kernel_rfl
theorem slOne {b : Nat} {w : World} {l : List En} (hb : b < w.heap.size) (hi : In w b 0 l) (ht : w.there b 0 (l.length * 9)) : Sl w (some ⟨b, 0, none⟩) l [b] := .inr ⟨b, 0, rfl, rfl, hb, hi, ht⟩
theorem slCap {n : Nat} (h : n ≤ 1048576) : n ≤ n ∧ n ≤ maxLen := ⟨Nat.le_refl _, by simp [maxLen]; omega⟩
theorem put_len (base bt prev pt : Int) (l q : List En) (hl : l.length ≤ 1048576) (hq : q.length ≤ 1048576) : (putLs base bt prev pt l q).length ≤ 3000000 := by
  unfold putLs
  split
  · split
    · have := putL_len (prev - base).toNat l q; omega
    · omega
  · simp

/-- What the law holds: the argument's box, the three logs' boxes, and their lists. -/
structure Bag (w W : World) (lc zc xc gc : Array Value) (zA xA gA : Nat) (a3 a5 a6 a7 : Option Addr) (F3 F5 F6 F7 : List Nat) (L3 L5 L6 L7 : List En) : Prop where
  bl : Below w.heap.size w W
  p : Blk W w.heap.size 24 lc
  z : Blk W zA 29 zc
  x : Blk W xA 29 xc
  g : Blk W gA 29 gc
  s3 : Sl W a3 L3 F3
  s5 : Sl W a5 L5 F5
  s6 : Sl W a6 L6 F6
  s7 : Sl W a7 L7 F7
section
variable {w W W' : World} {lc zc xc gc : Array Value} {zA xA gA : Nat} {a3 a5 a6 a7 : Option Addr} {F3 F5 F6 F7 : List Nat} {L3 L5 L6 L7 M : List En}
theorem Bag.below (h : Bag w W lc zc xc gc zA xA gA a3 a5 a6 a7 F3 F5 F6 F7 L3 L5 L6 L7) (k : Below W.heap.size W W') : Bag w W' lc zc xc gc zA xA gA a3 a5 a6 a7 F3 F5 F6 F7 L3 L5 L6 L7 :=
  ⟨via0 k h.bl, h.p.below k h.p.lt, h.z.below k h.z.lt, h.x.below k h.x.lt, h.g.below k h.g.lt, h.s3.below k, h.s5.below k, h.s6.below k, h.s7.below k⟩
/-- Which blocks those of F are not. -/
structure Dj (n zA xA gA : Nat) (F G1 G2 G3 : List Nat) : Prop where
  lo : ∀ x ∈ F, n < x
  nz : zA ∉ F
  nx : xA ∉ F
  ng : gA ∉ F
  n1 : ∀ x ∈ G1, x ∉ F
  n2 : ∀ x ∈ G2, x ∉ F
  n3 : ∀ x ∈ G3, x ∉ F
theorem Bag.mark5 (h : Bag w W lc zc xc gc zA xA gA a3 a5 a6 a7 F3 F5 F6 F7 L3 L5 L6 L7) (o : Off F5 W W') (s : Sl W' a5 M F5) (d : Dj w.heap.size zA xA gA F5 F3 F6 F7) : Bag w W' lc zc xc gc zA xA gA a3 a5 a6 a7 F3 F5 F6 F7 L3 M L6 L7 :=
  ⟨h.bl.trans (o.toBelow (fun x hx => Nat.le_of_lt (d.lo x hx)) h.bl.size), h.p.off o (fun e => Nat.lt_irrefl _ (d.lo _ e)), h.z.off o d.nz, h.x.off o d.nx, h.g.off o d.ng, h.s3.off o d.n1, s, h.s6.off o d.n2, h.s7.off o d.n3⟩
theorem Bag.mark6 (h : Bag w W lc zc xc gc zA xA gA a3 a5 a6 a7 F3 F5 F6 F7 L3 L5 L6 L7) (o : Off F6 W W') (s : Sl W' a6 M F6) (d : Dj w.heap.size zA xA gA F6 F3 F5 F7) : Bag w W' lc zc xc gc zA xA gA a3 a5 a6 a7 F3 F5 F6 F7 L3 L5 M L7 :=
  ⟨h.bl.trans (o.toBelow (fun x hx => Nat.le_of_lt (d.lo x hx)) h.bl.size), h.p.off o (fun e => Nat.lt_irrefl _ (d.lo _ e)), h.z.off o d.nz, h.x.off o d.nx, h.g.off o d.ng, h.s3.off o d.n1, h.s5.off o d.n2, s, h.s7.off o d.n3⟩
theorem Bag.mark7 (h : Bag w W lc zc xc gc zA xA gA a3 a5 a6 a7 F3 F5 F6 F7 L3 L5 L6 L7) (o : Off F7 W W') (s : Sl W' a7 M F7) (d : Dj w.heap.size zA xA gA F7 F3 F5 F6) : Bag w W' lc zc xc gc zA xA gA a3 a5 a6 a7 F3 F5 F6 F7 L3 L5 L6 M :=
  ⟨h.bl.trans (o.toBelow (fun x hx => Nat.le_of_lt (d.lo x hx)) h.bl.size), h.p.off o (fun e => Nat.lt_irrefl _ (d.lo _ e)), h.z.off o d.nz, h.x.off o d.nx, h.g.off o d.ng, h.s3.off o d.n1, h.s5.off o d.n2, h.s6.off o d.n3, s⟩
end

set_option maxRecDepth 100000 in
set_option maxHeartbeats 8000000 in
theorem law_any (base bt prev pt : Int) (A : Option Addr) (cap : Nat) (l : List En) (hl : l.length ≤ 9223372036854775807) (hr : ∀ x ∈ l, x.right) (hfs : I64 base ∧ I64 bt ∧ I64 prev ∧ I64 pt) (A2 : Option Addr) (cap2 : Nat) (q : List En) (hq : q.length ≤ 9223372036854775807) (hrq : ∀ x ∈ q, x.right) (w : World) (hA : At w A l) (hA2 : At w A2 q) :
    Calls Try.prog 3 #[.agg #[.int .i64 base, .int .i64 bt, .slice A l.length cap], .int .i64 prev, .int .i64 pt, .slice A2 q.length cap2] w fun e w' => e = .returned (.bool true) ∧ Below w.heap.size w w' := by
  have HA : Hid (At w A l) := hA
  have HA2 : Hid (At w A2 q) := hA2
  have Hr : Hid (∀ x ∈ l, x.fit) := fun x hx => (hr x hx).fit
  have Hrq : Hid (∀ x ∈ q, x.fit) := fun x hx => (hrq x hx).fit
  have Hf : Hid (I64 base ∧ I64 prev) := ⟨hfs.1, hfs.2.2.1⟩
  clear hA hA2 hr hrq hfs
  go_enter Try.func3, Try.ntmps3
  go_wp2_with fail
  refine (szLog_any base bt A cap l hl Hr.out 1048576 (by omega) (by omega) _ (HA.out.below (alloc0 (Below.refl _ _) _))).mono ?_
  rintro e w1 ⟨⟨r, rfl, hr⟩, g1⟩
  have B1 : Below w.heap.size w w1 := by repeat (first | exact Below.refl _ _ | assumption | refine via0 (by assumption) ?_ | refine Below.drew ?_ | refine alloc0 ?_ _)
  have p := (Blk.new w 24 #[.int .i64 base, .int .i64 bt, .slice A l.length cap]).below g1 (by simp)
  obtain ⟨u0, u1, u2⟩ := p.row3
  have HR := hidP hr
  clear hr g1
  by_cases hsz : r < 0
  · go_wp2
    go_ret
    exact ⟨rfl, B1⟩
  have hlen : Hid (l.length ≤ 1048576) := by
    show l.length ≤ 1048576
    rcases HR.out with h | ⟨_, h⟩
    · omega
    · omega
  have hr1 : 0 ≤ r ∧ r ≤ 1048576 := by
    rcases HR.out with h | ⟨_, h⟩
    · omega
    · omega
  go_wp2_with fail
  refine (szEntryS_any A2 cap2 q hq Hrq.out r hr1.1 hr1.2 _ (HA2.out.below B1)).mono ?_
  rintro e w2 ⟨⟨r2, rfl, hr2⟩, g2⟩
  have B2 := via0 g2 B1
  replace p := p.below g2 p.lt
  have HR2 := hidP hr2
  clear hr2 g2 u0 u1 u2
  obtain ⟨u0, u1, u2⟩ := p.row3
  by_cases hsz2 : r2 < 0
  · go_wp2
    go_ret
    exact ⟨rfl, B2⟩
  have hlenq : Hid (q.length ≤ 1048576) := by
    show q.length ≤ 1048576
    rcases HR2.out with h | ⟨_, h⟩
    · omega
    · omega
  have hLL := put_len base bt prev pt l q hlen.out hlenq.out
  have hS : Hid (∀ (A A2 : Option Addr) (W : World), At W A l → At W A2 q → Calls Try.prog 6 #[.agg #[.int .i64 base, .int .i64 bt, .slice A l.length l.length], .int .i64 prev, .int .i64 pt, .slice A2 q.length q.length] W fun e w' => ∃ v, e = .returned (.tuple #[.agg #[.int .i64 (putB base bt l), .int .i64 (putT base bt l), v], .bool (okPut base bt prev pt l q)]) ∧ NewSl W.heap.size w' v (putLs base bt prev pt l q) ∧ Below W.heap.size W w') :=
    fun A A2 W h h2 => specPut_any base bt prev pt Hf.out A A2 l.length q.length l q hlen.out hlenq.out Hr.out Hrq.out W h h2
  have hI : Hid (∀ (A A2 : Option Addr) (W : World), At W A l → At W A2 q → Calls Try.prog 9 #[.agg #[.int .i64 base, .int .i64 bt, .slice A l.length l.length], .int .i64 prev, .int .i64 pt, .slice A2 q.length q.length] W fun e w' => ∃ v, e = .returned (.tuple #[.agg #[.int .i64 (putB base bt l), .int .i64 (putT base bt l), v], .bool (okPut base bt prev pt l q)]) ∧ NewSl W.heap.size w' v (putLs base bt prev pt l q) ∧ Below W.heap.size W w') :=
    fun A A2 W h h2 => implPut_any base bt prev pt Hf.out A A2 l.length q.length l q hlen.out hlenq.out (slCap hlen.out) (slCap hlenq.out) Hr.out Hrq.out W h h2
  generalize putLs base bt prev pt l q = L at hLL hS hI
  generalize putB base bt l = yb at hS hI
  generalize putT base bt l = yt at hS hI
  generalize okPut base bt prev pt l q = ok at hS hI
  have HT : Hid (∀ W : World, Below w.heap.size w W → Calls Try.prog 7 #[.agg #[.int .i64 base, .int .i64 bt, .slice A l.length cap]] W fun e w' => ∃ b, e = .returned (.agg #[.int .i64 base, .int .i64 bt, .slice (some ⟨b, 0, none⟩) l.length l.length]) ∧ Below W.heap.size W w' ∧ W.heap.size ≤ b ∧ b < w'.heap.size ∧ In w' b 0 l ∧ w'.there b 0 (l.length * 9)) := fun W g => toLog_any base bt A cap l hlen.out W (HA.out.below g)
  have HE : Hid (∀ W : World, Below w.heap.size w W → Calls Try.prog 8 #[.slice A2 q.length cap2] W fun e w' => ∃ b, e = .returned (.slice (some ⟨b, 0, none⟩) q.length q.length) ∧ Below W.heap.size W w' ∧ W.heap.size ≤ b ∧ b < w'.heap.size ∧ In w' b 0 q ∧ w'.there b 0 (q.length * 9)) := fun W g => (toEntryS_any A2 cap2 q hlenq.out W (HA2.out.below g)).mono (by rintro e w' ⟨rfl, h1, h2, h3, h4⟩; exact ⟨_, rfl, h1, Nat.le_refl _, h2, h3, h4⟩)
  clear HA HA2 Hr Hrq Hf HR HR2
  go_wp2_with fail
  refine (HT.out _ B2).mono ?_
  rintro e w3 ⟨b3, rfl, g3, -, hb3, hi3, -⟩
  have B3 := via0 g3 B2
  replace p := p.below g3 p.lt
  have a3' : Hid (At w3 (some ⟨b3, 0, none⟩) l) := (.inr ⟨b3, 0, rfl, hb3, hi3⟩ : At w3 (some ⟨b3, 0, none⟩) l)
  clear hi3 g3 u0 u1 u2
  obtain ⟨u0, u1, u2⟩ := p.row3
  go_wp2_with fail
  refine (HE.out _ B3).mono ?_
  rintro e w4 ⟨b4, rfl, g4, -, hb4, hi4, -⟩
  have B4 := via0 g4 B3
  replace p := p.below g4 p.lt
  have a3' := hidP (a3'.out.below g4)
  have a4' : Hid (At w4 (some ⟨b4, 0, none⟩) q) := (.inr ⟨b4, 0, rfl, hb4, hi4⟩ : At w4 (some ⟨b4, 0, none⟩) q)
  clear hi4 g4 u0 u1 u2
  obtain ⟨u0, u1, u2⟩ := p.row3
  have hp4 := p.lt
  go_wp2_with fail
  refine (hS.out _ _ _ a3'.out a4'.out).mono ?_
  rintro e w5 ⟨v5, rfl, n5, g5⟩
  obtain ⟨a3, c3, F3, rfl, -, -, s3, f3⟩ := n5
  have B5 := via0 g5 B4
  replace p := (p.below g5 p.lt).alloc (.cells #[.int .i64 yb, .int .i64 yt, .slice a3 L.length c3] 29)
  have hz5 := g5.size
  have l3 := s3.lt
  have z := Blk.new w5 29 #[.int .i64 yb, .int .i64 yt, .slice a3 L.length c3]
  have B5 : Below w.heap.size w (w5.alloc (.cells #[.int .i64 yb, .int .i64 yt, .slice a3 L.length c3] 29)) := alloc0 B5 _
  have s3 := s3.below (alloc0 (Below.refl _ w5) (.cells #[.int .i64 yb, .int .i64 yt, .slice a3 L.length c3] 29))
  clear g5 u0 u1 u2 a3' a4' hb3 hb4
  obtain ⟨u0, u1, u2⟩ := p.row3
  have q1 := p.lt
  have S3 := hidP s3
  clear s3
  go_wp2_with fail
  refine (HT.out _ B5).mono ?_
  rintro e w6 ⟨b5, rfl, g6, hb5, hb5', hi5, ht5⟩
  have B6 := via0 g6 B5
  replace p := (p.below g6 p.lt).alloc (.cells #[.int .i64 base, .int .i64 bt, .slice (some ⟨b5, 0, none⟩) l.length l.length] 29)
  replace z := (z.below g6 z.lt).alloc (.cells #[.int .i64 base, .int .i64 bt, .slice (some ⟨b5, 0, none⟩) l.length l.length] 29)
  have x := Blk.new w6 29 #[.int .i64 base, .int .i64 bt, .slice (some ⟨b5, 0, none⟩) l.length l.length]
  have k6 : Below (w5.alloc (.cells #[.int .i64 yb, .int .i64 yt, .slice a3 L.length c3] 29)).heap.size (w5.alloc (.cells #[.int .i64 yb, .int .i64 yt, .slice a3 L.length c3] 29)) (w6.alloc (.cells #[.int .i64 base, .int .i64 bt, .slice (some ⟨b5, 0, none⟩) l.length l.length] 29)) := alloc0 g6 _
  have S3 := hidP (S3.out.below k6)
  have S5 := hidP ((slOne hb5' hi5 ht5).below (alloc0 (Below.refl _ w6) (.cells #[.int .i64 base, .int .i64 bt, .slice (some ⟨b5, 0, none⟩) l.length l.length] 29)))
  have B6 : Below w.heap.size w (w6.alloc (.cells #[.int .i64 base, .int .i64 bt, .slice (some ⟨b5, 0, none⟩) l.length l.length] 29)) := alloc0 B6 _
  have hb5a : w5.heap.size + 1 ≤ b5 := by simpa using hb5
  have hz6 : w5.heap.size + 1 ≤ w6.heap.size := by simpa using g6.size
  clear g6 k6 hi5 ht5 u0 u1 u2 hb5 q1
  obtain ⟨u0, u1, u2⟩ := p.row3
  have q1 := p.lt
  have xs6 : (w6.alloc (.cells #[.int .i64 base, .int .i64 bt, .slice (some ⟨b5, 0, none⟩) l.length l.length] 29)).heap.size = w6.heap.size + 1 := by simp
  go_wp2_with fail
  refine (HE.out _ B6).mono ?_
  rintro e w7 ⟨b6, rfl, g7, hb6, hb6', hi6, ht6⟩
  have B7 := via0 g7 B6
  replace p := p.below g7 p.lt
  replace z := z.below g7 z.lt
  replace x := x.below g7 x.lt
  have S3 := hidP (S3.out.below g7)
  have S5 := hidP (S5.out.below g7)
  have S6 := hidP (slOne hb6' hi6 ht6)
  have hz7 := g7.size
  rw [xs6] at hb6 hz7
  clear g7 hi6 ht6 u0 u1 u2 q1 xs6
  obtain ⟨u0, u1, u2⟩ := p.row3
  obtain ⟨t0, t1, t2⟩ := x.row3
  have q1 := p.lt
  have q2 := x.lt
  have q3 := z.lt
  go_wp2_with fail
  refine (hI.out _ _ _ S5.out.at S6.out.at).mono ?_
  rintro e w8 ⟨v8, rfl, n8, g8⟩
  obtain ⟨a7, c7, F7, rfl, -, -, s7, f7⟩ := n8
  have l7 := s7.lt
  have hz8 := g8.size
  have k8 : Below w7.heap.size w7 (w8.alloc (.cells #[.int .i64 yb, .int .i64 yt, .slice a7 L.length c7] 29)) := alloc0 g8 _
  have G := hidP (⟨via0 k8 B7, p.below k8 p.lt, z.below k8 z.lt, x.below k8 x.lt, Blk.new w8 _ _, S3.out.below k8, S5.out.below k8, S6.out.below k8, s7.below (alloc0 (Below.refl _ _) _)⟩ :
    Bag w (w8.alloc (.cells #[.int .i64 yb, .int .i64 yt, .slice a7 L.length c7] 29)) #[.int .i64 base, .int .i64 bt, .slice A l.length cap] #[.int .i64 yb, .int .i64 yt, .slice a3 L.length c3] #[.int .i64 base, .int .i64 bt, .slice (some ⟨b5, 0, none⟩) l.length l.length] #[.int .i64 yb, .int .i64 yt, .slice a7 L.length c7] w5.heap.size w6.heap.size w8.heap.size a3 (some ⟨b5, 0, none⟩) (some ⟨b6, 0, none⟩) a7 F3 [b5] [b6] F7 L l q L)
  have D5 : Hid (Dj w.heap.size w5.heap.size w6.heap.size w8.heap.size [b5] F3 [b6] F7) := ⟨by simp; omega, by simp; omega, by simp; omega, by simp; omega, fun x hx => by have := l3 x hx; simp; omega, fun x hx => by simp at hx ⊢; omega, fun x hx => by have := f7 x hx; simp; omega⟩
  have D6 : Hid (Dj w.heap.size w5.heap.size w6.heap.size w8.heap.size [b6] F3 [b5] F7) := ⟨by simp; omega, by simp; omega, by simp; omega, by simp; omega, fun x hx => by have := l3 x hx; simp; omega, fun x hx => by simp at hx ⊢; omega, fun x hx => by have := f7 x hx; simp; omega⟩
  have D7 : Hid (Dj w.heap.size w5.heap.size w6.heap.size w8.heap.size F7 F3 [b5] [b6]) := ⟨fun x hx => by have := f7 x hx; omega, fun h => by have := f7 _ h; omega, fun h => by have := f7 _ h; omega, fun h => by have := l7 _ h; omega, fun x hx h => by have := l3 x hx; have := f7 x h; omega, fun x hx h => by have := f7 x h; simp at hx; omega, fun x hx h => by have := f7 x h; simp at hx; omega⟩
  clear p z x S3 S5 S6 s7 f7 l7 f3 l3 k8 g8 hz5 hz6 hz7 hz8 hb5a hb5' hb6 hb6' u0 u1 u2 t0 t1 t2 q1 q2 q3 B3 B4 B5 B6 B7 hp4
  have HQ : Hid (∀ (W : World) (a a' : Option Addr) (c c' : Nat), At W a L → At W a' L → Calls Try.prog 10 #[.agg #[.int .i64 yb, .int .i64 yt, .slice a L.length c], .agg #[.int .i64 yb, .int .i64 yt, .slice a' L.length c']] W fun e w' => e = .returned (.bool true) ∧ Below W.heap.size W w') := fun W a a' c c' h h' => eqLog_same yb yt a a' c c' L (by omega) W h h'
  obtain ⟨u0, u1, u2⟩ := G.out.p.row3
  obtain ⟨t0, t1, t2⟩ := G.out.x.row3
  obtain ⟨z0, z1, z2⟩ := G.out.z.row3
  obtain ⟨y0, y1, y2⟩ := G.out.g.row3
  have q1 := G.out.p.lt
  have q2 := G.out.x.lt
  have q3 := G.out.z.lt
  have q4 := G.out.g.lt
  go_wp2_with fail
  refine (HQ.out _ _ _ _ _ G.out.s7.at G.out.s3.at).mono ?_
  rintro e w9 ⟨rfl, g⟩
  have G := hidP (G.out.below g)
  clear g u0 u1 u2 t0 t1 t2 z0 z1 z2 y0 y1 y2 q1 q2 q3 q4
  obtain ⟨u0, u1, u2⟩ := G.out.p.row3
  obtain ⟨t0, t1, t2⟩ := G.out.x.row3
  obtain ⟨z0, z1, z2⟩ := G.out.z.row3
  obtain ⟨y0, y1, y2⟩ := G.out.g.row3
  have q1 := G.out.p.lt
  have q2 := G.out.x.lt
  have q3 := G.out.z.lt
  have q4 := G.out.g.lt
  have nn : (ok != ok) = false := by cases ok <;> rfl
  go_wp2_with fail
  go_region_held3 (fun w' => w'.cell? ⟨w.heap.size, 0, none⟩ = some (.int .i64 base) ∧ w'.cell? ⟨w.heap.size, 1, none⟩ = some (.int .i64 bt) ∧ w'.cell? ⟨w.heap.size, 2, none⟩ = some (.slice A l.length cap) ∧
      w'.cell? ⟨w6.heap.size, 0, none⟩ = some (.int .i64 base) ∧ w'.cell? ⟨w6.heap.size, 1, none⟩ = some (.int .i64 bt) ∧ w'.cell? ⟨w6.heap.size, 2, none⟩ = some (.slice (some ⟨b5, 0, none⟩) l.length l.length))
    (first | (go_split_ands; refine ⟨?_, ?_, ?_, ?_, ?_, ?_⟩ <;> first | assumption | exact (k1 _ _ (by assumption)).trans (by assumption)) | go_keep)
    (first
      | (go_at_call 7; refine (HT.out _ (Below.drew G.out.bl)).mono ?_; rintro e w10 ⟨b10, rfl, g10, hb10, hb10', hi10, ht10⟩; obtain ⟨k1, m1⟩ := bcell g10; have s10 := Nat.lt_of_lt_of_le q1 g10.size; have s10' := Nat.lt_of_lt_of_le q2 g10.size; have a10 : Hid (At w10 (some ⟨b10, 0, none⟩) l) := (.inr ⟨b10, 0, rfl, hb10', hi10⟩ : At w10 (some ⟨b10, 0, none⟩) l); clear hi10 ht10)
      | (go_at_call 10; refine (eqLog_same base bt _ _ _ _ l hl _ (G.out.s5.at.below (via0 (by assumption) (Below.drew (Below.refl _ _)))) a10.out).mono ?_; rintro e w11 ⟨rfl, g11⟩; obtain ⟨k1, m1⟩ := bcell g11))
  have g : Below w9.heap.size w9 w11 := by repeat (first | exact Below.refl _ _ | assumption | refine via0 (by assumption) ?_ | refine Below.drew ?_ | refine alloc0 ?_ _)
  have G := hidP (G.out.below g)
  go_split_ands
  clear a10 g10 g11 hb10 hb10' k1 m1
  clear g u0 u1 u2 t0 t1 t2 z0 z1 z2 y0 y1 y2 q1 q2 q3 q4
  obtain ⟨u0, u1, u2⟩ := G.out.p.row3
  obtain ⟨t0, t1, t2⟩ := G.out.x.row3
  obtain ⟨z0, z1, z2⟩ := G.out.z.row3
  obtain ⟨y0, y1, y2⟩ := G.out.g.row3
  have q1 := G.out.p.lt
  have q2 := G.out.x.lt
  have q3 := G.out.z.lt
  have q4 := G.out.g.lt
  go_wp2_with fail
  refine (HE.out _ G.out.bl).mono ?_
  rintro e w12 ⟨b12, rfl, g, -, hb12, hi12, -⟩
  have G := hidP (G.out.below g)
  have a12 : Hid (At w12 (some ⟨b12, 0, none⟩) q) := (.inr ⟨b12, 0, rfl, hb12, hi12⟩ : At w12 (some ⟨b12, 0, none⟩) q)
  clear hi12 hb12
  clear g u0 u1 u2 t0 t1 t2 z0 z1 z2 y0 y1 y2 q1 q2 q3 q4
  obtain ⟨u0, u1, u2⟩ := G.out.p.row3
  obtain ⟨t0, t1, t2⟩ := G.out.x.row3
  obtain ⟨z0, z1, z2⟩ := G.out.z.row3
  obtain ⟨y0, y1, y2⟩ := G.out.g.row3
  have q1 := G.out.p.lt
  have q2 := G.out.x.lt
  have q3 := G.out.z.lt
  have q4 := G.out.g.lt
  go_wp2_with fail
  refine (eqEntryS_same _ _ _ _ q hq _ G.out.s6.at a12.out).mono ?_
  rintro e w13 ⟨rfl, g⟩
  have G := hidP (G.out.below g)
  clear a12
  clear g u0 u1 u2 t0 t1 t2 z0 z1 z2 y0 y1 y2 q1 q2 q3 q4
  obtain ⟨u0, u1, u2⟩ := G.out.p.row3
  obtain ⟨t0, t1, t2⟩ := G.out.x.row3
  obtain ⟨z0, z1, z2⟩ := G.out.z.row3
  obtain ⟨y0, y1, y2⟩ := G.out.g.row3
  have q1 := G.out.p.lt
  have q2 := G.out.x.lt
  have q3 := G.out.z.lt
  have q4 := G.out.g.lt
  have hl1 := hlen.out
  have hq1 := hlenq.out
  go_wp2_with fail
  refine (markLog_any base bt _ _ l (by omega) 1 (by omega) (by omega) [b5] _ G.out.s5).mono ?_
  rintro e w14 ⟨rfl, o, s⟩
  have g := o
  have G := hidP (G.out.mark5 o s D5.out)
  clear o s
  clear g u0 u1 u2 t0 t1 t2 z0 z1 z2 y0 y1 y2 q1 q2 q3 q4
  obtain ⟨u0, u1, u2⟩ := G.out.p.row3
  obtain ⟨t0, t1, t2⟩ := G.out.x.row3
  obtain ⟨z0, z1, z2⟩ := G.out.z.row3
  obtain ⟨y0, y1, y2⟩ := G.out.g.row3
  have q1 := G.out.p.lt
  have q2 := G.out.x.lt
  have q3 := G.out.z.lt
  have q4 := G.out.g.lt
  obtain ⟨kz, hkz⟩ : ∃ kz : Int, (1 : Int) + (l.length : Int) * 9 = kz := ⟨_, rfl⟩
  have hk1 : 1 ≤ kz ∧ kz ≤ 100000000 := by omega
  rw [hkz]
  clear hkz
  go_wp2_with fail
  refine (markE_any _ _ q (by omega) kz hk1.1 hk1.2 [b6] _ G.out.s6).mono ?_
  rintro e w15 ⟨rfl, o, s⟩
  have g := o
  have G := hidP (G.out.mark6 o s D6.out)
  clear o s
  clear g u0 u1 u2 t0 t1 t2 z0 z1 z2 y0 y1 y2 q1 q2 q3 q4
  obtain ⟨u0, u1, u2⟩ := G.out.p.row3
  obtain ⟨t0, t1, t2⟩ := G.out.x.row3
  obtain ⟨z0, z1, z2⟩ := G.out.z.row3
  obtain ⟨y0, y1, y2⟩ := G.out.g.row3
  have q1 := G.out.p.lt
  have q2 := G.out.x.lt
  have q3 := G.out.z.lt
  have q4 := G.out.g.lt
  obtain ⟨kz2, hkz2⟩ : ∃ kz2 : Int, kz + (q.length : Int) * 9 = kz2 := ⟨_, rfl⟩
  have hk2 : ¬ kz2 < 0 := by omega
  rw [hkz2]
  clear hkz2
  go_wp2_with fail
  refine (HQ.out _ _ _ _ _ G.out.s7.at G.out.s3.at).mono ?_
  rintro e w16 ⟨rfl, g⟩
  have G := hidP (G.out.below g)
  clear g u0 u1 u2 t0 t1 t2 z0 z1 z2 y0 y1 y2 q1 q2 q3 q4
  obtain ⟨u0, u1, u2⟩ := G.out.p.row3
  obtain ⟨t0, t1, t2⟩ := G.out.x.row3
  obtain ⟨z0, z1, z2⟩ := G.out.z.row3
  obtain ⟨y0, y1, y2⟩ := G.out.g.row3
  have q1 := G.out.p.lt
  have q2 := G.out.x.lt
  have q3 := G.out.z.lt
  have q4 := G.out.g.lt
  go_wp2_with fail
  refine (markLog_any yb yt _ _ L (by omega) 1 (by omega) (by omega) F7 _ G.out.s7).mono ?_
  rintro e w17 ⟨rfl, o, s⟩
  have g := o
  have G := hidP (G.out.mark7 o s D7.out)
  clear o s
  clear g u0 u1 u2 t0 t1 t2 z0 z1 z2 y0 y1 y2 q1 q2 q3 q4
  obtain ⟨u0, u1, u2⟩ := G.out.p.row3
  obtain ⟨t0, t1, t2⟩ := G.out.x.row3
  obtain ⟨z0, z1, z2⟩ := G.out.z.row3
  obtain ⟨y0, y1, y2⟩ := G.out.g.row3
  have q1 := G.out.p.lt
  have q2 := G.out.x.lt
  have q3 := G.out.z.lt
  have q4 := G.out.g.lt
  have HH : Hid (∀ W : World, Sl W a7 (marksEn L.length 1) F7 → Calls Try.prog 14 #[.agg #[.int .i64 yb, .int .i64 yt, .slice a7 L.length c7], .int .i64 1] W fun e w' => e = .returned (.int .i64 (1 + (L.length : Int) * 9)) ∧ Below W.heap.size W w') := fun W h => heldLog_any yb yt a7 c7 L.length (by omega) 1 (by omega) (by omega) F7 W h
  obtain ⟨mz, hmz⟩ : ∃ mz : Int, (1 : Int) + (L.length : Int) * 9 = mz := ⟨_, rfl⟩
  have hm1 : ¬ mz < 0 := by omega
  rw [hmz] at HH ⊢
  clear hmz
  go_wp2_with fail
  refine (HH.out _ G.out.s7).mono ?_
  rintro e w18 ⟨rfl, g⟩
  have G := hidP (G.out.below g)
  clear g u0 u1 u2 t0 t1 t2 z0 z1 z2 y0 y1 y2 q1 q2 q3 q4
  obtain ⟨u0, u1, u2⟩ := G.out.p.row3
  obtain ⟨t0, t1, t2⟩ := G.out.x.row3
  obtain ⟨z0, z1, z2⟩ := G.out.z.row3
  obtain ⟨y0, y1, y2⟩ := G.out.g.row3
  have q1 := G.out.p.lt
  have q2 := G.out.x.lt
  have q3 := G.out.z.lt
  have q4 := G.out.g.lt
  go_wp2_with fail
  refine (HT.out _ G.out.bl).mono ?_
  rintro e w19 ⟨b19, rfl, g, -, hb19, hi19, -⟩
  have G := hidP (G.out.below g)
  have a19 : Hid (At w19 (some ⟨b19, 0, none⟩) l) := (.inr ⟨b19, 0, rfl, hb19, hi19⟩ : At w19 (some ⟨b19, 0, none⟩) l)
  clear hi19 hb19
  clear g u0 u1 u2 t0 t1 t2 z0 z1 z2 y0 y1 y2 q1 q2 q3 q4
  obtain ⟨u0, u1, u2⟩ := G.out.p.row3
  obtain ⟨t0, t1, t2⟩ := G.out.x.row3
  obtain ⟨z0, z1, z2⟩ := G.out.z.row3
  obtain ⟨y0, y1, y2⟩ := G.out.g.row3
  have q1 := G.out.p.lt
  have q2 := G.out.x.lt
  have q3 := G.out.z.lt
  have q4 := G.out.g.lt
  go_wp2_with fail
  refine (HE.out _ G.out.bl).mono ?_
  rintro e w20 ⟨b20, rfl, g, -, hb20, hi20, -⟩
  have G := hidP (G.out.below g)
  have a19 := hidP (a19.out.below g)
  have a20 : Hid (At w20 (some ⟨b20, 0, none⟩) q) := (.inr ⟨b20, 0, rfl, hb20, hi20⟩ : At w20 (some ⟨b20, 0, none⟩) q)
  clear hi20 hb20
  clear g u0 u1 u2 t0 t1 t2 z0 z1 z2 y0 y1 y2 q1 q2 q3 q4
  obtain ⟨u0, u1, u2⟩ := G.out.p.row3
  obtain ⟨t0, t1, t2⟩ := G.out.x.row3
  obtain ⟨z0, z1, z2⟩ := G.out.z.row3
  obtain ⟨y0, y1, y2⟩ := G.out.g.row3
  have q1 := G.out.p.lt
  have q2 := G.out.x.lt
  have q3 := G.out.z.lt
  have q4 := G.out.g.lt
  go_wp2_with fail
  refine (hI.out _ _ _ a19.out a20.out).mono ?_
  rintro e w21 ⟨v21, rfl, n21, g⟩
  obtain ⟨a21, c21, F21, rfl, -, -, s21, f21⟩ := n21
  have G := hidP ((G.out.below g).below (alloc0 (Below.refl _ _) (.cells #[.int .i64 yb, .int .i64 yt, .slice a21 L.length c21] 29)))
  have S21 := hidP (s21.below (alloc0 (Below.refl _ _) (.cells #[.int .i64 yb, .int .i64 yt, .slice a21 L.length c21] 29)))
  clear s21 f21 a19 a20
  clear g u0 u1 u2 t0 t1 t2 z0 z1 z2 y0 y1 y2 q1 q2 q3 q4
  obtain ⟨u0, u1, u2⟩ := G.out.p.row3
  obtain ⟨t0, t1, t2⟩ := G.out.x.row3
  obtain ⟨z0, z1, z2⟩ := G.out.z.row3
  obtain ⟨y0, y1, y2⟩ := G.out.g.row3
  have q1 := G.out.p.lt
  have q2 := G.out.x.lt
  have q3 := G.out.z.lt
  have q4 := G.out.g.lt
  go_wp2_with fail
  refine (HQ.out _ _ _ _ _ S21.out.at G.out.s3.at).mono ?_
  rintro e w22 ⟨rfl, g⟩
  have G := hidP (G.out.below g)
  clear S21
  clear g u0 u1 u2 t0 t1 t2 z0 z1 z2 y0 y1 y2 q1 q2 q3 q4
  obtain ⟨u0, u1, u2⟩ := G.out.p.row3
  obtain ⟨t0, t1, t2⟩ := G.out.x.row3
  obtain ⟨z0, z1, z2⟩ := G.out.z.row3
  obtain ⟨y0, y1, y2⟩ := G.out.g.row3
  have q1 := G.out.p.lt
  have q2 := G.out.x.lt
  have q3 := G.out.z.lt
  have q4 := G.out.g.lt
  go_wp2_with fail
  refine (HH.out _ G.out.s7).mono ?_
  rintro e w23 ⟨rfl, g⟩
  have G := hidP (G.out.below g)
  clear u0 u1 u2 t0 t1 t2 z0 z1 z2 y0 y1 y2 q1 q2 q3 q4
  go_wp2
  go_ret
  exact ⟨rfl, G.out.bl⟩

theorem openSlE {H : Type} {enc : TypeId × Value → H} {W : World} {base b0 : Nat} {r : Reach} {spare : Nat → Bool} {held : Bool} {v : Value} {d : DataW H} {p : List MemPlace}
    (hv : Value.okWide Try.prog W r b0 22 v) (h : DataW.Trod enc Try.prog W base spare held 22 v d p) :
    ∃ (A : Option Addr) (cap : Nat) (l : List En), v = .slice A l.length cap ∧ l.length ≤ 9223372036854775807 ∧ (∀ x ∈ l, x.right) ∧ At W A l := by
  obtain ⟨a0, len0, cap0, rfl⟩ := okWide_slice Try.underlying22 hv
  obtain ⟨fuel, hf⟩ := h
  exact openEntryS hf

set_option maxRecDepth 100000 in
theorem contract (H : Type) (enc : TypeId × Value → H) (W : World) (base : Nat) (args : Array Value) (ds gs : List (DataW H)) (before : List MemPlace)
    (hval : ∀ (j : Nat) t v, Try.f3.params[j]? = some t → args[j]? = some v → Value.okWide Try.prog W .any base t v)
    (hW : DataW.Whole enc Try.prog Try.f3.params.toList Rows.fnExactLogPutSpec.vars false W args.toList ds gs before) :
    Calls Try.prog 3 args W fun e W' => ∃ v, e = .returned v ∧ Rows.fnExactLogPutSpec.post enc Try.prog Try.f3 false true false false W args v W' := by
  have hW' := hW
  obtain ⟨p, q, hA0, hV, rfl, hfz, hnd⟩ := hW
  have hA : DataW.TrodAll enc Try.prog W 0 (fun _ => true) true Try.f3.params.toList args.toList ds p := hA0
  rw [Try.params3] at hA hval
  obtain ⟨v0, vs0, d0, ds0, p0, q0, e0, rfl, rfl, h0, r0⟩ := trodAll_cons hA
  obtain ⟨v1, vs1, d1, ds1, p1, q1, rfl, rfl, rfl, h1, r1⟩ := trodAll_cons r0
  obtain ⟨v2, vs2, d2, ds2, p2, q2, rfl, rfl, rfl, h2, r2⟩ := trodAll_cons r1
  obtain ⟨v3, vs3, d3, ds3, p3, q3, rfl, rfl, rfl, h3, r3⟩ := trodAll_cons r2
  obtain ⟨rfl, rfl, rfl⟩ := trodAll_nil r3
  have e0' : args = #[v0, v1, v2, v3] := by cases args; simp_all
  subst e0'
  obtain ⟨rfl, rfl⟩ := trodVars_none hV
  obtain ⟨base, bt, A, cap, l, rfl, i0, i1, hl, hr, hat⟩ := openLog (hval 0 24 v0 rfl rfl) h0
  obtain ⟨prev, rfl, _, _, j1⟩ := open_int Try.underlying3 (hval 1 3 v1 rfl rfl) h1
  obtain ⟨pt, rfl, _, _, j2⟩ := open_int Try.underlying3 (hval 2 3 v2 rfl rfl) h2
  obtain ⟨A2, cap2, q', hq', hlq, hrq, hatq⟩ := openSlE (hval 3 22 v3 rfl rfl) h3
  subst hq'
  refine (law_any base bt prev pt A cap l hl hr ⟨i0, i1, i64_of j1, i64_of j2⟩ A2 cap2 q' hlq hrq W hat hatq).mono fun e W' ⟨he, hb⟩ => ?_
  subst he
  exact ⟨_, rfl, post_true laidOut (by kernel_rfl) (by kernel_rfl) Try.underlying4 rfl rfl hW' hb⟩

set_option maxRecDepth 100000 in
theorem lifted (os : Os) (started : os.Started) (H : Type) (enc : TypeId × Value → H) :
    ReturnsInHanded {} Try.checked os 3 .any (Rows.fnExactLogPutSpec.pre6 enc Try.prog Try.f3 Rows.fnExactLogPutRow.domain false) (Rows.fnExactLogPutSpec.post enc Try.prog Try.f3 false true false false) := by
  refine returnsInHanded_of_change (C := Try.checked) own started (by kernel_rfl) Try.func3
    (ChangeSpec.witness6 (enc := enc) (C := Try.checked) false ⟨#[], #[.agg #[.int .i64 0, .int .i64 0, .slice none 0 0], .int .i64 0, .int .i64 0, .slice none 0 0], []⟩ 8 (by kernel_rfl) (by kernel_rfl) (by kernel_rfl) (by kernel_rfl)) ?_
  intro W base args ds gs before hval0 hW _ _
  exact contract H enc W base args ds gs before hval0 hW

theorem proved : Rows.FnExactLogPutSaid :=
  OpenClaim.holds_of_wide 3 Try.f3 rfl rfl rfl rfl rfl rfl rfl ⟨rfl, rfl, rfl, rfl, rfl⟩ rfl rfl rfl rfl rfl (by kernel_rfl) Try.func3 (by kernel_rfl)
    (of_decide_eq_true (by kernel_rfl)) (by unfold Func.isWrapper; first | (rw [if_pos (by decide +kernel)]; kernel_rfl) | (rw [if_neg (by decide +kernel)]; exact ⟨rfl, rfl⟩))
    (fun os started H enc _ => lifted os started H enc)
end Go.Proofs.Yteccgpakhbogpaa.LogPut
namespace Go.Proofs.Yteccgpakhbogpaa
theorem logPut_holds : Rows.FnExactLogPutSaid := LogPut.proved
end Go.Proofs.Yteccgpakhbogpaa
