import Derived.Test.YtnaibklajocejaaCalB
/- The contracts of dial's readings that are counted through, and of minutes' lengths. -/
namespace Go.Proofs.Ytnaibklajocejaa
open Go.RowKit

theorem minuteLength_in {cs : Array Value} {h m s d : Int} {x : Nat → Int} (C : Cal cs h m s d x) (a b c q : Int) (w : World) (h1 : 1 ≤ h) (h2 : h ≤ 24) (m1 : 1 ≤ m) (m2 : m ≤ 60) (hb : b < h - 1 ∨ c < m - 1) :
    Calls Try.prog 104 #[.agg cs, rd a b c q] w fun e w' => e = .returned (.int .i64 s) ∧ Up w w' := by
  have hs := Lib.hid C.size
  have q0 := C.c0
  have q1 := C.c1
  have q2 := C.c2
  by_cases k : b < h - 1
  · go_enter Try.func104, Try.ntmps104
    go_wp2
    go_ret
    exact ⟨rfl, ((Up.refl _).alloc _).alloc _⟩
  · have k' : c < m - 1 := by omega
    go_enter Try.func104, Try.ntmps104
    go_wp2
    go_ret
    exact ⟨rfl, ((Up.refl _).alloc _).alloc _⟩

theorem minuteLength_last {cs : Array Value} {h m s d : Int} {x : Nat → Int} (C : Cal cs h m s d x) (k : Nat) (b c q : Int) (w : World) (hk : k < 10) (h1 : 1 ≤ h) (h2 : h ≤ 24) (m1 : 1 ≤ m) (m2 : m ≤ 60) (s1 : 2 ≤ s) (s2 : s ≤ 60) (hb : ¬ b < h - 1) (hc : ¬ c < m - 1) :
    Calls Try.prog 104 #[.agg cs, rd k b c q] w fun e w' => e = .returned (.int .i64 (D.lastM s (x k))) ∧ Up w w' := by
  have hs := Lib.hid C.size
  have q0 := C.c0
  have q1 := C.c1
  have q2 := C.c2
  go_enter Try.func104, Try.ntmps104
  go_wp2_with fail
  refine (lastMinute_any C k _ hk s1 s2).mono ?_
  rintro e w1 ⟨rfl, u1⟩
  go_wp2
  go_ret
  exact ⟨rfl, (((Up.refl _).alloc _).alloc _).trans u1⟩

theorem sum3 (b : Nat) (p q r : Int) (c : Nat) (w : World) (hb : mblk w b = some (.cells #[.int .i64 p, .int .i64 q, .int .i64 r] 3 (0, 0))) :
    Calls Try.prog 84 #[.slice (some ⟨b, 0, none⟩) 3 c] w fun e w' => e = .returned (.int .i64 (wrap64 (D.tot [p, q, r]))) ∧ w = w' := by
  refine sum_any b 0 [p, q, r] c w (by simp) fun k hk => ?_
  rw [cellB hb]
  simp only [List.length_cons, List.length_nil] at hk
  have : k = 0 ∨ k = 1 ∨ k = 2 := by omega
  rcases this with rfl | rfl | rfl <;> rfl

theorem iw (n : Int) : IntKind.i64.wrap n = wrap64 n := by rw [IntKind.wrap_i64, wrap64]

/-- the minute of a reading, counted through, as 64 bits hold it -/
def D.cnt (h m a b c : Int) : Int := wrap64 (D.tot [wrap64 (a * (h * m)), wrap64 (b * m), c])

theorem counted_any {cs : Array Value} {h m s d : Int} {x : Nat → Int} (C : Cal cs h m s d x) (a b c q : Int) (w : World) (h1 : 1 ≤ h) (h2 : h ≤ 24) (m1 : 1 ≤ m) (m2 : m ≤ 60) :
    Calls Try.prog 91 #[.agg cs, rd a b c q] w fun e w' => e = .returned (.int .i64 (D.cnt h m a b c)) ∧ Up w w' := by
  have hs := Lib.hid C.size
  obtain ⟨a1, a2⟩ := D.mul_bd h m h1 h2 m1 m2
  go_enter Try.func91, Try.ntmps91
  go_wp2_with fail
  go_region_held3 (fun w' => mblk w' w.heap.size = some (.cells cs 87 (0, 0)) ∧ mblk w' (w.heap.size + 1) = some (.cells #[.int .i64 a, .int .i64 b, .int .i64 c, .int .i64 q] 27 (0, 0)) ∧ Up w w')
    (first
      | exact ⟨by rw [blk_drew, blk_past _ _ _ (by simp), blk_new _ _ _ rfl], by rw [blk_drew, blk_new _ _ _ (by simp)], (((Up.refl _).alloc _).alloc _).drew⟩
      | (go_split_ands; exact ⟨u1.blk (by assumption), u1.blk (by assumption), Up.trans (by assumption) u1⟩)
      | (go_split_ands; exact ⟨by assumption, by assumption, by assumption⟩)
      | (go_split_ands; exact ⟨blk_keep _ (by assumption), blk_keep _ (by assumption), Up.alloc (by assumption) _⟩))
    (first
      | (go_at_call 81; refine (mod_any C _ h1 h2 m1 m2).mono ?_; rintro e w1 ⟨rfl, u1⟩)
      | (go_at_call 107; refine (moh_any C _).mono ?_; rintro e w1 ⟨rfl, u1⟩)
      | (go_at_call 84; refine (sum3 _ _ _ _ _ _ (by exact blk_new _ _ _ rfl)).mono ?_; rintro e w1 ⟨rfl, rfl⟩))
  all_goals
    go_wp2
    go_ret
    go_split_ands
    exact ⟨by simp only [iw]; rfl, by assumption⟩

/-- are the parts of a reading as they come from dividing its minute? -/
def D.divd (h m a b c : Int) : Bool := (D.cnt h m a b c / (h * m) == a) && ((D.cnt h m a b c % (h * m) / m == b) && (D.cnt h m a b c % (h * m) % m == c))
theorem D.cnt_bd (h m a b c : Int) : -9223372036854775808 ≤ D.cnt h m a b c ∧ D.cnt h m a b c ≤ 9223372036854775807 := by
  unfold D.cnt wrap64; omega

theorem isDivided_core {cs : Array Value} {h m s d : Int} {x : Nat → Int} (C : Cal cs h m s d x) (a b c q A B Z : Int) (f1 f2 f3 : Bool) (w : World) (h1 : 1 ≤ h) (h2 : h ≤ 24) (m1 : 1 ≤ m) (m2 : m ≤ 60)
    (hA : Hid (D.cnt h m a b c / (h * m) = A)) (hB : Hid (D.cnt h m a b c % (h * m) / m = B)) (hZ : Hid (D.cnt h m a b c % (h * m) % m = Z)) (e1 : (A == a) = f1) (e2 : (B == b) = f2) (e3 : (Z == c) = f3) :
    Calls Try.prog 93 #[.agg cs, rd a b c q] w fun e w' => e = .returned (.bool (f1 && (f2 && f3))) ∧ Up w w' := by
  have hs := Lib.hid C.size
  obtain ⟨n1, n2⟩ := D.cnt_bd h m a b c
  have K : ∀ w, Calls Try.prog 87 #[.agg cs, .int .i64 (D.cnt h m a b c), .int .i64 q] w fun e w' => e = .returned (rd A B Z q) ∧ Up w w' := fun w =>
    (divided_any C _ q w h1 h2 m1 m2 n1 n2).mono fun e w' ⟨he, hw⟩ => ⟨by rw [he, hA.out, hB.out, hZ.out], hw⟩
  have HK := Lib.hid K
  clear K hA hB hZ
  cases f1 <;> cases f2 <;> cases f3
  all_goals
    go_enter Try.func93, Try.ntmps93
    go_wp2_with fail
    go_region_held3 (fun w' => mblk w' w.heap.size = some (.cells cs 87 (0, 0)) ∧ mblk w' (w.heap.size + 1) = some (.cells #[.int .i64 a, .int .i64 b, .int .i64 c, .int .i64 q] 27 (0, 0)) ∧ Up w w')
      (first
        | exact ⟨by rw [blk_drew, blk_past _ _ _ (by simp), blk_new _ _ _ rfl], by rw [blk_drew, blk_new _ _ _ (by simp)], (((Up.refl _).alloc _).alloc _).drew⟩
        | (go_split_ands; exact ⟨u1.blk (by assumption), u1.blk (by assumption), Up.trans (by assumption) u1⟩))
      (first
        | (go_at_call 91; refine (counted_any C _ _ _ _ _ h1 h2 m1 m2).mono ?_; rintro e w1 ⟨rfl, u1⟩)
        | (go_at_call 87; refine (HK.out _).mono ?_; rintro e w1 ⟨rfl, u1⟩))
    all_goals
      go_wp2
      go_ret
      go_split_ands
      exact ⟨rfl, by assumption⟩

theorem isDivided_any {cs : Array Value} {h m s d : Int} {x : Nat → Int} (C : Cal cs h m s d x) (a b c q : Int) (w : World) (h1 : 1 ≤ h) (h2 : h ≤ 24) (m1 : 1 ≤ m) (m2 : m ≤ 60) :
    Calls Try.prog 93 #[.agg cs, rd a b c q] w fun e w' => e = .returned (.bool (D.divd h m a b c)) ∧ Up w w' :=
  isDivided_core C a b c q _ _ _ _ _ _ w h1 h2 m1 m2 (Lib.hid rfl) (Lib.hid rfl) (Lib.hid rfl) rfl rfl rfl

end Go.Proofs.Ytnaibklajocejaa
