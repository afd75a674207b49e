/-
  FnExactSync: at every input the program's answer is the specification's, byte by byte; what it was handed stays as it was; its answer owns its memory. No condition.
-/
import Derived.Test.YtdcngbkcammjoaaDk8
import Derived.ChangeMaps5
namespace Go.Proofs.Ytdcngbkcammjoaa.Sync
open Go.ChangeShapes Go.WideShapes Go.ChangeAt Go.RowKit Go.Joins Go.Deep Base Gen
set_option linter.unusedVariables false

theorem own : ownKnob Try.prog.godebug = none := by kernel_rfl
theorem laidOut : laidOutB Try.prog = true := by kernel_rfl
theorem slOne {b : Nat} {w : World} {l : List UInt8} (hb : b < w.heap.size) (hi : In w b 0 l) (ht : w.there b 0 (l.length * 1)) : Sl w (some ⟨b, 0, none⟩) l [b] := .inr ⟨b, 0, rfl, rfl, hb, hi, ht⟩
theorem slCap {n : Nat} (h : n ≤ 1048576) : n ≤ n ∧ n ≤ maxLen := ⟨Nat.le_refl _, by simp [maxLen]; omega⟩
theorem ans_len (l : List UInt8) (hl : l.length ≤ 1048576) : l.length ≤ 3000000 := by omega

/-- What the law holds: the argument's box, the three disks' boxes, and their lists. -/
structure Bag (w W : World) (lc zc xc gc : Array Value) (zA xA gA : Nat) (a3 a5 a6 a7 : Option Addr) (F3 F5 F6 F7 : List Nat) (L3 L5 L6 L7 : List UInt8) : Prop where
  bl : Below w.heap.size w W
  p : Blk W w.heap.size 24 lc
  z : Blk W zA 27 zc
  x : Blk W xA 27 xc
  g : Blk W gA 27 gc
  s3 : Sl W a3 L3 F3
  s5 : Sl W a5 L5 F5
  s6 : Sl W a6 L6 F6
  s7 : Sl W a7 L7 F7
section
variable {w W W' : World} {lc zc xc gc : Array Value} {zA xA gA : Nat} {a3 a5 a6 a7 : Option Addr} {F3 F5 F6 F7 : List Nat} {L3 L5 L6 L7 M : List UInt8}
theorem Bag.below (h : Bag w W lc zc xc gc zA xA gA a3 a5 a6 a7 F3 F5 F6 F7 L3 L5 L6 L7) (k : Below W.heap.size W W') : Bag w W' lc zc xc gc zA xA gA a3 a5 a6 a7 F3 F5 F6 F7 L3 L5 L6 L7 :=
  ⟨via0 k h.bl, h.p.below k h.p.lt, h.z.below k h.z.lt, h.x.below k h.x.lt, h.g.below k h.g.lt, h.s3.below k, h.s5.below k, h.s6.below k, h.s7.below k⟩
/-- Which blocks those of F are not. -/
structure Dj (n zA xA gA : Nat) (F G1 G2 G3 : List Nat) : Prop where
  lo : ∀ x ∈ F, n < x
  nz : zA ∉ F
  nx : xA ∉ F
  ng : gA ∉ F
  n1 : ∀ x ∈ G1, x ∉ F
  n2 : ∀ x ∈ G2, x ∉ F
  n3 : ∀ x ∈ G3, x ∉ F
theorem Bag.mark5 (h : Bag w W lc zc xc gc zA xA gA a3 a5 a6 a7 F3 F5 F6 F7 L3 L5 L6 L7) (o : Off F5 W W') (s : Sl W' a5 M F5) (d : Dj w.heap.size zA xA gA F5 F3 F6 F7) : Bag w W' lc zc xc gc zA xA gA a3 a5 a6 a7 F3 F5 F6 F7 L3 M L6 L7 :=
  ⟨h.bl.trans (o.toBelow (fun x hx => Nat.le_of_lt (d.lo x hx)) h.bl.size), h.p.off o (fun e => Nat.lt_irrefl _ (d.lo _ e)), h.z.off o d.nz, h.x.off o d.nx, h.g.off o d.ng, h.s3.off o d.n1, s, h.s6.off o d.n2, h.s7.off o d.n3⟩
theorem Bag.mark6 (h : Bag w W lc zc xc gc zA xA gA a3 a5 a6 a7 F3 F5 F6 F7 L3 L5 L6 L7) (o : Off F6 W W') (s : Sl W' a6 M F6) (d : Dj w.heap.size zA xA gA F6 F3 F5 F7) : Bag w W' lc zc xc gc zA xA gA a3 a5 a6 a7 F3 F5 F6 F7 L3 L5 M L7 :=
  ⟨h.bl.trans (o.toBelow (fun x hx => Nat.le_of_lt (d.lo x hx)) h.bl.size), h.p.off o (fun e => Nat.lt_irrefl _ (d.lo _ e)), h.z.off o d.nz, h.x.off o d.nx, h.g.off o d.ng, h.s3.off o d.n1, h.s5.off o d.n2, s, h.s7.off o d.n3⟩
theorem Bag.mark7 (h : Bag w W lc zc xc gc zA xA gA a3 a5 a6 a7 F3 F5 F6 F7 L3 L5 L6 L7) (o : Off F7 W W') (s : Sl W' a7 M F7) (d : Dj w.heap.size zA xA gA F7 F3 F5 F6) : Bag w W' lc zc xc gc zA xA gA a3 a5 a6 a7 F3 F5 F6 F7 L3 L5 L6 M :=
  ⟨h.bl.trans (o.toBelow (fun x hx => Nat.le_of_lt (d.lo x hx)) h.bl.size), h.p.off o (fun e => Nat.lt_irrefl _ (d.lo _ e)), h.z.off o d.nz, h.x.off o d.nx, h.g.off o d.ng, h.s3.off o d.n1, h.s5.off o d.n2, h.s6.off o d.n3, s⟩
end

set_option maxRecDepth 100000 in
set_option maxHeartbeats 8000000 in
theorem law_any (su : Int) (A : Option Addr) (cap : Nat) (l : List UInt8) (hl : l.length ≤ 9223372036854775807) (w : World) (hA : At w A l) :
    Calls Try.prog 5 #[.agg #[.slice A l.length cap, .int .i64 su]] w fun e w' => e = .returned (.bool true) ∧ Below w.heap.size w w' := by
  have HA : Hid (At w A l) := hA
  clear hA
  go_enter Try.func5, Try.ntmps5
  go_wp2_with fail
  refine (szDisk_any su A cap l hl 1048576 (by omega) (by omega) _).mono ?_
  rintro e w2 ⟨⟨r, rfl, hr⟩, g1⟩
  have B2 : Below w.heap.size w w2 := by repeat (first | exact Below.refl _ _ | assumption | refine via0 (by assumption) ?_ | refine Below.drew ?_ | refine alloc0 ?_ _)
  have p := (Blk.new w 24 #[.slice A l.length cap, .int .i64 su]).below g1 (by simp)
  obtain ⟨u0, u1⟩ := p.row2
  have HR := hidP hr
  clear hr g1
  by_cases hsz : r < 0
  · go_wp2
    go_ret
    exact ⟨rfl, B2⟩
  have hlen : Hid (l.length ≤ 1048576) := by
    show l.length ≤ 1048576
    rcases HR.out with h | ⟨_, h⟩
    · omega
    · omega
  have hLL := ans_len l hlen.out
  have hS : Hid (∀ (A : Option Addr) (W : World), At W A l → Calls Try.prog 19 #[.agg #[.slice A l.length l.length, .int .i64 su]] W fun e w' => ∃ v, e = .returned (.agg #[v, .int .i64 (syncS su l.length)]) ∧ NewB W.heap.size w' v l ∧ Below W.heap.size W w') := fun A W h => specSync_any su A l.length l hlen.out W h
  have hI : Hid (∀ (A : Option Addr) (W : World), At W A l → Calls Try.prog 20 #[.agg #[.slice A l.length l.length, .int .i64 su]] W fun e w' => ∃ v, e = .returned (.agg #[v, .int .i64 (syncS su l.length)]) ∧ NewB W.heap.size w' v l ∧ Below W.heap.size W w') := fun A W h => implSync_any su A l.length l hlen.out W h
  obtain ⟨L, hL⟩ : ∃ L, L = l := ⟨_, rfl⟩
  generalize syncS su l.length = ys at hS hI
  have hS : Hid (∀ (A : Option Addr) (W : World), At W A l → Calls Try.prog 19 #[.agg #[.slice A l.length l.length, .int .i64 su]] W fun e w' => ∃ v, e = .returned (.agg #[v, .int .i64 ys]) ∧ NewB W.heap.size w' v L ∧ Below W.heap.size W w') := by rw [hL]; exact hS.out
  have hI : Hid (∀ (A : Option Addr) (W : World), At W A l → Calls Try.prog 20 #[.agg #[.slice A l.length l.length, .int .i64 su]] W fun e w' => ∃ v, e = .returned (.agg #[v, .int .i64 ys]) ∧ NewB W.heap.size w' v L ∧ Below W.heap.size W w') := by rw [hL]; exact hI.out
  rw [← hL] at hLL
  clear hL
  have HT : Hid (∀ W : World, Below w.heap.size w W → Calls Try.prog 9 #[.agg #[.slice A l.length cap, .int .i64 su]] W fun e w' => ∃ b, e = .returned (.agg #[.slice (some ⟨b, 0, none⟩) l.length l.length, .int .i64 su]) ∧ Below W.heap.size W w' ∧ W.heap.size ≤ b ∧ b < w'.heap.size ∧ In w' b 0 l ∧ w'.there b 0 (l.length * 1)) := fun W g => toDisk_any su A cap l hlen.out W (HA.out.below g)
  clear HA HR
  go_wp2_with fail
  refine (HT.out _ B2).mono ?_
  rintro e w3 ⟨b3, rfl, g3, -, hb3, hi3, -⟩
  have B3 := via0 g3 B2
  replace p := p.below g3 p.lt
  have a3' : Hid (At w3 (some ⟨b3, 0, none⟩) l) := (.inr ⟨b3, 0, rfl, hb3, hi3⟩ : At w3 (some ⟨b3, 0, none⟩) l)
  clear hi3 g3 u0 u1
  obtain ⟨u0, u1⟩ := p.row2
  have hp4 := p.lt
  go_wp2_with fail
  refine (hS.out _ _ a3'.out).mono ?_
  rintro e w5 ⟨v5, rfl, n5, g5⟩
  obtain ⟨a3, c3, F3, rfl, -, -, s3, f3⟩ := n5
  have B5 := via0 g5 B3
  replace p := (p.below g5 p.lt).alloc (.cells #[.slice a3 L.length c3, .int .i64 ys] 27)
  have hz5 := g5.size
  have l3 := s3.lt
  have z := Blk.new w5 27 #[.slice a3 L.length c3, .int .i64 ys]
  have B5 : Below w.heap.size w (w5.alloc (.cells #[.slice a3 L.length c3, .int .i64 ys] 27)) := alloc0 B5 _
  have s3 := s3.below (alloc0 (Below.refl _ w5) (.cells #[.slice a3 L.length c3, .int .i64 ys] 27))
  clear g5 u0 u1 a3' hb3
  obtain ⟨u0, u1⟩ := p.row2
  have q1 := p.lt
  have S3 := hidP s3
  clear s3
  go_wp2_with fail
  refine (HT.out _ B5).mono ?_
  rintro e w6 ⟨b5, rfl, g6, hb5, hb5', hi5, ht5⟩
  have B6 := via0 g6 B5
  replace p := (p.below g6 p.lt).alloc (.cells #[.slice (some ⟨b5, 0, none⟩) l.length l.length, .int .i64 su] 27)
  replace z := (z.below g6 z.lt).alloc (.cells #[.slice (some ⟨b5, 0, none⟩) l.length l.length, .int .i64 su] 27)
  have x := Blk.new w6 27 #[.slice (some ⟨b5, 0, none⟩) l.length l.length, .int .i64 su]
  have k6 : Below (w5.alloc (.cells #[.slice a3 L.length c3, .int .i64 ys] 27)).heap.size (w5.alloc (.cells #[.slice a3 L.length c3, .int .i64 ys] 27)) (w6.alloc (.cells #[.slice (some ⟨b5, 0, none⟩) l.length l.length, .int .i64 su] 27)) := alloc0 g6 _
  have S3 := hidP (S3.out.below k6)
  have S5 := hidP ((slOne hb5' hi5 ht5).below (alloc0 (Below.refl _ w6) (.cells #[.slice (some ⟨b5, 0, none⟩) l.length l.length, .int .i64 su] 27)))
  have B6 : Below w.heap.size w (w6.alloc (.cells #[.slice (some ⟨b5, 0, none⟩) l.length l.length, .int .i64 su] 27)) := alloc0 B6 _
  have hb5a : w5.heap.size + 1 ≤ b5 := by simpa using hb5
  have hz6 : w5.heap.size + 1 ≤ w6.heap.size := by simpa using g6.size
  clear g6 k6 hi5 ht5 u0 u1 hb5 q1
  obtain ⟨u0, u1⟩ := p.row2
  have q1 := p.lt
  have xs6 : (w6.alloc (.cells #[.slice (some ⟨b5, 0, none⟩) l.length l.length, .int .i64 su] 27)).heap.size = w6.heap.size + 1 := by simp
  obtain ⟨t0, t1⟩ := x.row2
  have q2 := x.lt
  have q3 := z.lt
  go_wp2_with fail
  refine (hI.out _ _ S5.out.at).mono ?_
  rintro e w8 ⟨v8, rfl, n8, g8⟩
  obtain ⟨a7, c7, F7, rfl, -, -, s7, f7⟩ := n8
  have l7 := s7.lt
  have hz8 := g8.size
  rw [xs6] at hz8 f7
  have k8 : Below (w6.alloc (.cells #[.slice (some ⟨b5, 0, none⟩) l.length l.length, .int .i64 su] 27)).heap.size (w6.alloc (.cells #[.slice (some ⟨b5, 0, none⟩) l.length l.length, .int .i64 su] 27)) (w8.alloc (.cells #[.slice a7 L.length c7, .int .i64 ys] 27)) := alloc0 g8 _
  have G := hidP (⟨via0 k8 B6, p.below k8 p.lt, z.below k8 z.lt, x.below k8 x.lt, Blk.new w8 _ _, S3.out.below k8, S5.out.below k8, Sl.nil _ none, s7.below (alloc0 (Below.refl _ _) _)⟩ :
    Bag w (w8.alloc (.cells #[.slice a7 L.length c7, .int .i64 ys] 27)) #[.slice A l.length cap, .int .i64 su] #[.slice a3 L.length c3, .int .i64 ys] #[.slice (some ⟨b5, 0, none⟩) l.length l.length, .int .i64 su] #[.slice a7 L.length c7, .int .i64 ys] w5.heap.size w6.heap.size w8.heap.size a3 (some ⟨b5, 0, none⟩) none a7 F3 [b5] [] F7 L l [] L)
  have D5 : Hid (Dj w.heap.size w5.heap.size w6.heap.size w8.heap.size [b5] F3 [] F7) := ⟨by simp; omega, by simp; omega, by simp; omega, by simp; omega, fun x hx => by have := l3 x hx; simp; omega, fun x hx => by simp at hx, fun x hx => by have := f7 x hx; simp; omega⟩
  have D7 : Hid (Dj w.heap.size w5.heap.size w6.heap.size w8.heap.size F7 F3 [b5] []) := ⟨fun x hx => by have := f7 x hx; omega, fun h => by have := f7 _ h; omega, fun h => by have := f7 _ h; omega, fun h => by have := l7 _ h; omega, fun x hx h => by have := l3 x hx; have := f7 x h; omega, fun x hx h => by have := f7 x h; simp at hx; omega, fun x hx h => by simp at hx⟩
  clear p z x S3 S5 s7 f7 l7 f3 l3 k8 g8 hz5 hz6 hz8 hb5a hb5' u0 u1 t0 t1 q1 q2 q3 B3 B5 B6 hp4 xs6
  have HQ : Hid (∀ (W : World) (a a' : Option Addr) (c c' : Nat), At W a L → At W a' L → Calls Try.prog 11 #[.agg #[.slice a L.length c, .int .i64 ys], .agg #[.slice a' L.length c', .int .i64 ys]] W fun e w' => e = .returned (.bool true) ∧ Below W.heap.size W w') := fun W a a' c c' h h' => eqDisk_same ys a a' c c' L (by omega) W h h'
  obtain ⟨u0, u1⟩ := G.out.p.row2
  obtain ⟨t0, t1⟩ := G.out.x.row2
  obtain ⟨z0, z1⟩ := G.out.z.row2
  obtain ⟨y0, y1⟩ := G.out.g.row2
  have q1 := G.out.p.lt
  have q2 := G.out.x.lt
  have q3 := G.out.z.lt
  have q4 := G.out.g.lt
  go_wp2_with fail
  refine (HQ.out _ _ _ _ _ G.out.s7.at G.out.s3.at).mono ?_
  rintro e w9 ⟨rfl, g⟩
  have G := hidP (G.out.below g)
  clear g u0 u1 t0 t1 z0 z1 y0 y1 q1 q2 q3 q4
  obtain ⟨u0, u1⟩ := G.out.p.row2
  obtain ⟨t0, t1⟩ := G.out.x.row2
  obtain ⟨z0, z1⟩ := G.out.z.row2
  obtain ⟨y0, y1⟩ := G.out.g.row2
  have q1 := G.out.p.lt
  have q2 := G.out.x.lt
  have q3 := G.out.z.lt
  have q4 := G.out.g.lt
  go_wp2_with fail
  go_region_held3 (fun w' => w'.cell? ⟨w.heap.size, 0, none⟩ = some (.slice A l.length cap) ∧ w'.cell? ⟨w.heap.size, 1, none⟩ = some (.int .i64 su) ∧
      w'.cell? ⟨w6.heap.size, 0, none⟩ = some (.slice (some ⟨b5, 0, none⟩) l.length l.length) ∧ w'.cell? ⟨w6.heap.size, 1, none⟩ = some (.int .i64 su))
    (first | (go_split_ands; refine ⟨?_, ?_, ?_, ?_⟩ <;> first | assumption | exact (k1 _ _ (by assumption)).trans (by assumption)) | go_keep)
    (first
      | (go_at_call 9; refine (HT.out _ (Below.drew G.out.bl)).mono ?_; rintro e w10 ⟨b10, rfl, g10, hb10, hb10', hi10, ht10⟩; obtain ⟨k1, m1⟩ := bcell g10; have s10 := Nat.lt_of_lt_of_le q1 g10.size; have s10' := Nat.lt_of_lt_of_le q2 g10.size; have a10 : Hid (At w10 (some ⟨b10, 0, none⟩) l) := (.inr ⟨b10, 0, rfl, hb10', hi10⟩ : At w10 (some ⟨b10, 0, none⟩) l); clear hi10 ht10)
      | (go_at_call 11; refine (eqDisk_same su _ _ _ _ l hl _ (G.out.s5.at.below (via0 (by assumption) (Below.drew (Below.refl _ _)))) a10.out).mono ?_; rintro e w11 ⟨rfl, g11⟩; obtain ⟨k1, m1⟩ := bcell g11))
  have g : Below w9.heap.size w9 w11 := by repeat (first | exact Below.refl _ _ | assumption | refine via0 (by assumption) ?_ | refine Below.drew ?_ | refine alloc0 ?_ _)
  have G := hidP (G.out.below g)
  go_split_ands
  clear a10 g10 g11 hb10 hb10' k1 m1
  clear g u0 u1 t0 t1 z0 z1 y0 y1 q1 q2 q3 q4
  obtain ⟨u0, u1⟩ := G.out.p.row2
  obtain ⟨t0, t1⟩ := G.out.x.row2
  obtain ⟨z0, z1⟩ := G.out.z.row2
  obtain ⟨y0, y1⟩ := G.out.g.row2
  have q1 := G.out.p.lt
  have q2 := G.out.x.lt
  have q3 := G.out.z.lt
  have q4 := G.out.g.lt
  have hl1 := hlen.out
  go_wp2_with fail
  refine (markDisk_any su _ _ l (by omega) 1 (by omega) (by omega) [b5] _ G.out.s5).mono ?_
  rintro e w14 ⟨rfl, o, s⟩
  have g := o
  have G := hidP (G.out.mark5 o s D5.out)
  clear o s
  clear g u0 u1 t0 t1 z0 z1 y0 y1 q1 q2 q3 q4
  obtain ⟨u0, u1⟩ := G.out.p.row2
  obtain ⟨t0, t1⟩ := G.out.x.row2
  obtain ⟨z0, z1⟩ := G.out.z.row2
  obtain ⟨y0, y1⟩ := G.out.g.row2
  have q1 := G.out.p.lt
  have q2 := G.out.x.lt
  have q3 := G.out.z.lt
  have q4 := G.out.g.lt
  obtain ⟨kz, hkz⟩ : ∃ kz : Int, (1 : Int) + (l.length : Int) = kz := ⟨_, rfl⟩
  have hk1 : 1 ≤ kz ∧ kz ≤ 100000000 := by omega
  rw [hkz]
  clear hkz
  have hk2 : ¬ kz < 0 := by omega
  go_wp2_with fail
  refine (HQ.out _ _ _ _ _ G.out.s7.at G.out.s3.at).mono ?_
  rintro e w16 ⟨rfl, g⟩
  have G := hidP (G.out.below g)
  clear g u0 u1 t0 t1 z0 z1 y0 y1 q1 q2 q3 q4
  obtain ⟨u0, u1⟩ := G.out.p.row2
  obtain ⟨t0, t1⟩ := G.out.x.row2
  obtain ⟨z0, z1⟩ := G.out.z.row2
  obtain ⟨y0, y1⟩ := G.out.g.row2
  have q1 := G.out.p.lt
  have q2 := G.out.x.lt
  have q3 := G.out.z.lt
  have q4 := G.out.g.lt
  go_wp2_with fail
  refine (markDisk_any ys _ _ L (by omega) 1 (by omega) (by omega) F7 _ G.out.s7).mono ?_
  rintro e w17 ⟨rfl, o, s⟩
  have g := o
  have G := hidP (G.out.mark7 o s D7.out)
  clear o s
  clear g u0 u1 t0 t1 z0 z1 y0 y1 q1 q2 q3 q4
  obtain ⟨u0, u1⟩ := G.out.p.row2
  obtain ⟨t0, t1⟩ := G.out.x.row2
  obtain ⟨z0, z1⟩ := G.out.z.row2
  obtain ⟨y0, y1⟩ := G.out.g.row2
  have q1 := G.out.p.lt
  have q2 := G.out.x.lt
  have q3 := G.out.z.lt
  have q4 := G.out.g.lt
  have HH : Hid (∀ W : World, Sl W a7 (marksB L.length 1) F7 → Calls Try.prog 18 #[.agg #[.slice a7 L.length c7, .int .i64 ys], .int .i64 1] W fun e w' => e = .returned (.int .i64 (1 + (L.length : Int))) ∧ Below W.heap.size W w') := fun W h => heldDisk_any ys a7 c7 L.length (by omega) F7 W h
  obtain ⟨mz, hmz⟩ : ∃ mz : Int, (1 : Int) + (L.length : Int) = mz := ⟨_, rfl⟩
  have hm1 : ¬ mz < 0 := by omega
  rw [hmz] at HH ⊢
  clear hmz
  go_wp2_with fail
  refine (HH.out _ G.out.s7).mono ?_
  rintro e w18 ⟨rfl, g⟩
  have G := hidP (G.out.below g)
  clear g u0 u1 t0 t1 z0 z1 y0 y1 q1 q2 q3 q4
  obtain ⟨u0, u1⟩ := G.out.p.row2
  obtain ⟨t0, t1⟩ := G.out.x.row2
  obtain ⟨z0, z1⟩ := G.out.z.row2
  obtain ⟨y0, y1⟩ := G.out.g.row2
  have q1 := G.out.p.lt
  have q2 := G.out.x.lt
  have q3 := G.out.z.lt
  have q4 := G.out.g.lt
  go_wp2_with fail
  refine (HT.out _ G.out.bl).mono ?_
  rintro e w19 ⟨b19, rfl, g, -, hb19, hi19, -⟩
  have G := hidP (G.out.below g)
  have a19 : Hid (At w19 (some ⟨b19, 0, none⟩) l) := (.inr ⟨b19, 0, rfl, hb19, hi19⟩ : At w19 (some ⟨b19, 0, none⟩) l)
  clear hi19 hb19
  clear g u0 u1 t0 t1 z0 z1 y0 y1 q1 q2 q3 q4
  obtain ⟨u0, u1⟩ := G.out.p.row2
  obtain ⟨t0, t1⟩ := G.out.x.row2
  obtain ⟨z0, z1⟩ := G.out.z.row2
  obtain ⟨y0, y1⟩ := G.out.g.row2
  have q1 := G.out.p.lt
  have q2 := G.out.x.lt
  have q3 := G.out.z.lt
  have q4 := G.out.g.lt
  go_wp2_with fail
  refine (hI.out _ _ a19.out).mono ?_
  rintro e w21 ⟨v21, rfl, n21, g⟩
  obtain ⟨a21, c21, F21, rfl, -, -, s21, f21⟩ := n21
  have G := hidP ((G.out.below g).below (alloc0 (Below.refl _ _) (.cells #[.slice a21 L.length c21, .int .i64 ys] 27)))
  have S21 := hidP (s21.below (alloc0 (Below.refl _ _) (.cells #[.slice a21 L.length c21, .int .i64 ys] 27)))
  clear s21 f21 a19
  clear g u0 u1 t0 t1 z0 z1 y0 y1 q1 q2 q3 q4
  obtain ⟨u0, u1⟩ := G.out.p.row2
  obtain ⟨t0, t1⟩ := G.out.x.row2
  obtain ⟨z0, z1⟩ := G.out.z.row2
  obtain ⟨y0, y1⟩ := G.out.g.row2
  have q1 := G.out.p.lt
  have q2 := G.out.x.lt
  have q3 := G.out.z.lt
  have q4 := G.out.g.lt
  go_wp2_with fail
  refine (HQ.out _ _ _ _ _ S21.out.at G.out.s3.at).mono ?_
  rintro e w22 ⟨rfl, g⟩
  have G := hidP (G.out.below g)
  clear S21
  clear g u0 u1 t0 t1 z0 z1 y0 y1 q1 q2 q3 q4
  obtain ⟨u0, u1⟩ := G.out.p.row2
  obtain ⟨t0, t1⟩ := G.out.x.row2
  obtain ⟨z0, z1⟩ := G.out.z.row2
  obtain ⟨y0, y1⟩ := G.out.g.row2
  have q1 := G.out.p.lt
  have q2 := G.out.x.lt
  have q3 := G.out.z.lt
  have q4 := G.out.g.lt
  go_wp2_with fail
  refine (HH.out _ G.out.s7).mono ?_
  rintro e w23 ⟨rfl, g⟩
  have G := hidP (G.out.below g)
  clear u0 u1 t0 t1 z0 z1 y0 y1 q1 q2 q3 q4
  go_wp2
  go_ret
  exact ⟨rfl, G.out.bl⟩

set_option maxRecDepth 100000 in
theorem contract (H : Type) (enc : TypeId × Value → H) (W : World) (base : Nat) (args : Array Value) (ds gs : List (DataW H)) (before : List MemPlace)
    (hval : ∀ (j : Nat) t v, Try.f5.params[j]? = some t → args[j]? = some v → Value.okWide Try.prog W .any base t v)
    (hW : DataW.Whole enc Try.prog Try.f5.params.toList Rows.fnExactSyncSpec.vars false W args.toList ds gs before) :
    Calls Try.prog 5 args W fun e W' => ∃ v, e = .returned v ∧ Rows.fnExactSyncSpec.post enc Try.prog Try.f5 false true false false W args v W' := by
  have hW' := hW
  obtain ⟨p, q, hA0, hV, rfl, hfz, hnd⟩ := hW
  have hA : DataW.TrodAll enc Try.prog W 0 (fun _ => true) true Try.f5.params.toList args.toList ds p := hA0
  rw [Try.params5] at hA hval
  obtain ⟨v0, vs0, d0, ds0, p0, q0, e0, rfl, rfl, h0, r0⟩ := trodAll_cons hA
  obtain ⟨rfl, rfl, rfl⟩ := trodAll_nil r0
  have e0' : args = #[v0] := by cases args; simp_all
  subst e0'
  obtain ⟨rfl, rfl⟩ := trodVars_none hV
  obtain ⟨su, A, cap, l, rfl, i0, hl, hat⟩ := openDisk (hval 0 24 v0 rfl rfl) h0

  refine (law_any su A cap l hl W hat).mono fun e W' ⟨he, hb⟩ => ?_
  subst he
  exact ⟨_, rfl, post_true laidOut (by kernel_rfl) (by kernel_rfl) Try.underlying4 rfl rfl hW' hb⟩

set_option maxRecDepth 100000 in
theorem lifted (os : Os) (started : os.Started) (H : Type) (enc : TypeId × Value → H) :
    ReturnsInHanded {} Try.checked os 5 .any (Rows.fnExactSyncSpec.pre6 enc Try.prog Try.f5 Rows.fnExactSyncRow.domain false) (Rows.fnExactSyncSpec.post enc Try.prog Try.f5 false true false false) := by
  refine returnsInHanded_of_change (C := Try.checked) own started (by kernel_rfl) Try.func5
    (ChangeSpec.witness6 (enc := enc) (C := Try.checked) false ⟨#[], #[.agg #[.slice none 0 0, .int .i64 0]], []⟩ 8 (by kernel_rfl) (by kernel_rfl) (by kernel_rfl) (by kernel_rfl)) ?_
  intro W base args ds gs before hval0 hW _ _
  exact contract H enc W base args ds gs before hval0 hW

theorem proved : Rows.FnExactSyncSaid :=
  OpenClaim.holds_of_wide 5 Try.f5 rfl rfl rfl rfl rfl rfl rfl ⟨rfl, rfl, rfl, rfl, rfl⟩ rfl rfl rfl rfl rfl (by kernel_rfl) Try.func5 (by kernel_rfl)
    (of_decide_eq_true (by kernel_rfl)) (by unfold Func.isWrapper; first | (rw [if_pos (by decide +kernel)]; kernel_rfl) | (rw [if_neg (by decide +kernel)]; exact ⟨rfl, rfl⟩))
    (fun os started H enc _ => lifted os started H enc)
end Go.Proofs.Ytdcngbkcammjoaa.Sync
namespace Go.Proofs.Ytdcngbkcammjoaa
theorem sync_holds : Rows.FnExactSyncSaid := Sync.proved
end Go.Proofs.Ytdcngbkcammjoaa
