import Derived.Test.YtghelfbigbdkkaaCalE
import Derived.Lib.SmallJoins
/- The contracts of dial's increasing and hasDecrees. -/
namespace Go.Proofs.Ytghelfbigbdkkaa
open Go.RowKit

/-- are numbers strictly increasing, all above one, and each one that may be there? -/
def D.incr (p : Int → Bool) : Int → List Int → Bool
  | _, [] => true
  | a, n :: l => (decide (a < n) && p n) && D.incr p n l

set_option maxHeartbeats 1000000 in
theorem increasing_isDay (p : Int → Bool) (cs : Array Value) (hF : ∀ n w, Calls Try.prog 21 #[.agg cs, .int .i64 n] w fun e w' => e = .returned (.bool (p n)) ∧ Up w w')
    (a : Int) (b c : Nat) (zs : List Int) (w : World) (hl : zs.length ≤ 1000) (hb : 0 < zs.length → b < w.heap.size) (hc : ∀ k, k < zs.length → w.cell? ⟨b, k, none⟩ = some (.int .i64 (zs.getD k 0))) :
    Calls Try.prog 53 #[.int .i64 a, .slice (some ⟨b, 0, none⟩) zs.length c, .func (.func 21) #[.agg cs] #[]] w fun e w' => e = .returned (.bool (D.incr p a zs)) ∧ Up w w' := by
  have HF := Lib.hid hF
  have HB := Lib.hid hb
  clear hF hb
  go_enter Try.func53, Try.ntmps53
  go_wp2
  go_loopw [0, 8, 11] (fun av _ i wr => ∃ (k : Nat) (ak : Int), k ≤ zs.length ∧ i = .int .i64 k ∧ av = .int .i64 ak ∧ Hid (D.incr p a zs = D.incr p ak (zs.drop k)) ∧ Up w wr) (fun _ _ i _ => zs.length - (intOf i).toNat)
  case atStart => exact ⟨0, a, Nat.zero_le _, rfl, rfl, rfl, Up.refl _⟩
  case round =>
    obtain ⟨k, ak, hk, rfl, rfl, hI, U⟩ := hrel
    by_cases hlt : k < zs.length
    · have hcell : wr.cell? ⟨b, k, none⟩ = some (.int .i64 (zs.getD k 0)) := by
        rw [U.facts.1 b k (HB.out (by omega))]; exact hc k hlt
      have hd : zs.drop k = zs.getD k 0 :: zs.drop (k + 1) := by
        rw [List.drop_eq_getElem_cons hlt, List.getD_eq_getElem?_getD, List.getElem?_eq_getElem hlt]; rfl
      rw [hd, D.incr] at hI
      have HI := Lib.hid hI
      generalize zs.getD k 0 = z at *
      clear hc hd hI
      by_cases hz : z ≤ ak
      · have HZ : Hid (D.incr p a zs = false) := by
          unfold Hid; rw [HI.out.out]
          have : decide (ak < z) = false := by simp; omega
          rw [this]; rfl
        clear HI
        go_wp2
        go_ret
        exact ⟨by rw [HZ.out]; rfl, U⟩
      · have hz' : decide (ak < z) = true := by simp; omega
        rw [hz'] at HI
        clear hz'
        cases hp : p z
        · have K := fun w => HF.out z w
          rw [hp] at K HI
          have HK := Lib.hid K
          have HZ : Hid (D.incr p a zs = false) := by unfold Hid; rw [HI.out.out]; rfl
          clear K HI hp
          go_wp2_with fail
          refine (HK.out _).mono ?_
          rintro e w1 ⟨rfl, u1⟩
          go_wp2
          go_ret
          exact ⟨by rw [HZ.out]; rfl, U.trans u1⟩
        · have K := fun w => HF.out z w
          rw [hp] at K HI
          have HK := Lib.hid K
          have HZ : Hid (D.incr p a zs = D.incr p z (zs.drop (k + 1))) := by unfold Hid; rw [HI.out.out]; rfl
          clear K HI hp
          go_wp2_with fail
          refine (HK.out _).mono ?_
          rintro e w1 ⟨rfl, u1⟩
          go_wp2
          go_roundw
          case rel => exact ⟨k + 1, z, by omega, by go_num, rfl, HZ, U.trans u1⟩
          case measure => simp [intOf]; omega
    · have : zs.drop k = [] := List.drop_of_length_le (by omega)
      have HZ : Hid (D.incr p a zs = true) := by unfold Hid; rw [hI.out, this]; rfl
      clear this hI hc
      go_wp2
      go_ret
      exact ⟨by rw [HZ.out]; rfl, U⟩

set_option maxHeartbeats 1000000 in
theorem increasing_hasReading (p : Int → Bool) (cs : Array Value) (hF : ∀ n w, Calls Try.prog 24 #[.agg cs, .int .i64 n] w fun e w' => e = .returned (.bool (p n)) ∧ Up w w')
    (a : Int) (b c : Nat) (zs : List Int) (w : World) (hl : zs.length ≤ 1000) (hb : 0 < zs.length → b < w.heap.size) (hc : ∀ k, k < zs.length → w.cell? ⟨b, k, none⟩ = some (.int .i64 (zs.getD k 0))) :
    Calls Try.prog 53 #[.int .i64 a, .slice (some ⟨b, 0, none⟩) zs.length c, .func (.func 24) #[.agg cs] #[]] w fun e w' => e = .returned (.bool (D.incr p a zs)) ∧ Up w w' := by
  have HF := Lib.hid hF
  have HB := Lib.hid hb
  clear hF hb
  go_enter Try.func53, Try.ntmps53
  go_wp2
  go_loopw [0, 8, 11] (fun av _ i wr => ∃ (k : Nat) (ak : Int), k ≤ zs.length ∧ i = .int .i64 k ∧ av = .int .i64 ak ∧ Hid (D.incr p a zs = D.incr p ak (zs.drop k)) ∧ Up w wr) (fun _ _ i _ => zs.length - (intOf i).toNat)
  case atStart => exact ⟨0, a, Nat.zero_le _, rfl, rfl, rfl, Up.refl _⟩
  case round =>
    obtain ⟨k, ak, hk, rfl, rfl, hI, U⟩ := hrel
    by_cases hlt : k < zs.length
    · have hcell : wr.cell? ⟨b, k, none⟩ = some (.int .i64 (zs.getD k 0)) := by
        rw [U.facts.1 b k (HB.out (by omega))]; exact hc k hlt
      have hd : zs.drop k = zs.getD k 0 :: zs.drop (k + 1) := by
        rw [List.drop_eq_getElem_cons hlt, List.getD_eq_getElem?_getD, List.getElem?_eq_getElem hlt]; rfl
      rw [hd, D.incr] at hI
      have HI := Lib.hid hI
      generalize zs.getD k 0 = z at *
      clear hc hd hI
      by_cases hz : z ≤ ak
      · have HZ : Hid (D.incr p a zs = false) := by
          unfold Hid; rw [HI.out.out]
          have : decide (ak < z) = false := by simp; omega
          rw [this]; rfl
        clear HI
        go_wp2
        go_ret
        exact ⟨by rw [HZ.out]; rfl, U⟩
      · have hz' : decide (ak < z) = true := by simp; omega
        rw [hz'] at HI
        clear hz'
        cases hp : p z
        · have K := fun w => HF.out z w
          rw [hp] at K HI
          have HK := Lib.hid K
          have HZ : Hid (D.incr p a zs = false) := by unfold Hid; rw [HI.out.out]; rfl
          clear K HI hp
          go_wp2_with fail
          refine (HK.out _).mono ?_
          rintro e w1 ⟨rfl, u1⟩
          go_wp2
          go_ret
          exact ⟨by rw [HZ.out]; rfl, U.trans u1⟩
        · have K := fun w => HF.out z w
          rw [hp] at K HI
          have HK := Lib.hid K
          have HZ : Hid (D.incr p a zs = D.incr p z (zs.drop (k + 1))) := by unfold Hid; rw [HI.out.out]; rfl
          clear K HI hp
          go_wp2_with fail
          refine (HK.out _).mono ?_
          rintro e w1 ⟨rfl, u1⟩
          go_wp2
          go_roundw
          case rel => exact ⟨k + 1, z, by omega, by go_num, rfl, HZ, U.trans u1⟩
          case measure => simp [intOf]; omega
    · have : zs.drop k = [] := List.drop_of_length_le (by omega)
      have HZ : Hid (D.incr p a zs = true) := by unfold Hid; rw [hI.out, this]; rfl
      clear this hI hc
      go_wp2
      go_ret
      exact ⟨by rw [HZ.out]; rfl, U⟩

end Go.Proofs.Ytghelfbigbdkkaa

/- The contract of dial's hasDecrees. -/
namespace Go.Proofs.Ytghelfbigbdkkaa
open Go.RowKit

/-- the decrees as they lie in memory -/
structure Decs (w : World) (b off : Nat) (L : List (Int × Bool)) : Prop where
  lt : b < w.heap.size
  day : ∀ k, k < L.length → w.cell? ⟨b, off + k * 2, none⟩ = some (.int .i64 (L.getD k (0, false)).1)
  plus : ∀ k, k < L.length → w.cell? ⟨b, off + k * 2 + 1, none⟩ = some (.bool (L.getD k (0, false)).2)
theorem Decs.up {w w' : World} {b off : Nat} {L : List (Int × Bool)} (h : Decs w b off L) (u : Up w w') : Decs w' b off L :=
  ⟨Nat.lt_of_lt_of_le h.lt u.size, fun k hk => (u.facts.1 b _ h.lt).trans (h.day k hk), fun k hk => (u.facts.1 b _ h.lt).trans (h.plus k hk)⟩

theorem cell_one_at (w : World) (x : Value) (t : TypeId) (n : Nat) (hn : n = w.heap.size) : ∀ j u, [x][j]? = some u → (w.alloc (.cells #[x] t)).cell? ((⟨n, 0, none⟩ : Addr).add j) = some u := by
  subst hn; exact cell_one_new w x t
theorem own_block {w : World} {base size n : Nat} {e : TypeId} {v : Value} {xs : List Value} (h : w.ownsRow base e size v n xs) {k : Nat} (hk : v.ownBlock = some k) : base ≤ k := by
  obtain ⟨_, ⟨rfl, _⟩ | ⟨g, cap, cur, rfl, hg, _⟩⟩ := h
  · simp [Value.ownBlock] at hk
  · simp [Value.ownBlock] at hk; omega
theorem own_ne {w : World} {base size n : Nat} {e : TypeId} {v : Value} {xs : List Value} (h : w.ownsRow base e size v n xs) {b : Nat} (hb : b < base) : some b ≠ v.ownBlock := by
  intro hk
  have := own_block h hk.symm
  omega

theorem increasing_nil (a : Int) (w : World) (f : Value) :
    Calls Try.prog 53 #[.int .i64 a, .slice none 0 0, f] w fun e w' => e = .returned (.bool true) ∧ Up w w' := by
  go_enter Try.func53, Try.ntmps53
  go_wp2
  refine wp_loop_rounds 1 ?_
  rw [rounds_succ]
  go_wp2
  go_ret
  exact ⟨rfl, Up.refl _⟩

theorem hasDecrees_many {cs : Array Value} {h m s d : Int} {x : Nat → Int} (C : Cal cs h m s d x) (a : Option Addr) (n c : Nat) (ca : cs[4]? = some (.slice a n c)) (hn : 10 < n) (hn2 : n ≤ 9223372036854775807) (w : World) :
    Calls Try.prog 36 #[.agg cs] w fun e w' => e = .returned (.bool false) ∧ Up w w' := by
  have hs := Lib.hid C.size
  have g : (10 : Int) < (n : Int) := by omega
  go_enter Try.func36, Try.ntmps36
  go_wp2
  go_ret
  exact ⟨rfl, (Up.refl _).alloc _⟩

set_option maxRecDepth 100000 in
theorem hasDecrees_nil {cs : Array Value} {h m s d : Int} {x : Nat → Int} (C : Cal cs h m s d x) (a : Option Addr) (c : Nat) (ca : cs[4]? = some (.slice a 0 c)) (w : World) :
    Calls Try.prog 36 #[.agg cs] w fun e w' => e = .returned (.bool true) ∧ Up w w' := by
  have hs := Lib.hid C.size
  go_enter Try.func36, Try.ntmps36
  go_wp2_with fail
  refine wp_loop_rounds 1 ?_
  rw [rounds_succ]
  go_wp2_with fail
  refine (increasing_nil _ _ _).mono ?_
  rintro e w1 ⟨rfl, u1⟩
  go_wp2
  go_ret
  exact ⟨rfl, ((Up.refl _).alloc _).trans u1⟩

set_option maxRecDepth 100000 in
set_option maxHeartbeats 1000000 in
theorem hasDecrees_any {cs : Array Value} {h m s d : Int} {x : Nat → Int} (C : Cal cs h m s d x) (b off c : Nat) (L : List (Int × Bool)) (ca : cs[4]? = some (.slice (some ⟨b, off, none⟩) L.length c)) (hn0 : 0 < L.length) (hn : L.length ≤ 10) (w : World) (hD : Decs w b off L) (d1 : 1 ≤ d) (d2 : d ≤ 10) :
    Calls Try.prog 36 #[.agg cs] w fun e w' => e = .returned (.bool (D.incr (fun k => inB k 0 (d - 1)) (-1) (L.map (·.1)))) ∧ Up w w' := by
  have hs := Lib.hid C.size
  obtain ⟨i0, hi, hz0, hz1, hz2⟩ := info_parts Try.infoInt
  have g : ¬ (10 : Int) < (L.length : Int) := by omega
  have HD := Lib.hid hD
  clear hD
  go_enter Try.func36, Try.ntmps36
  go_wp2_with fail
  go_loopw [3, 5, 15] (fun l _ i wr => ∃ k : Nat, k ≤ L.length ∧ i = .int .i64 k ∧ wr.ownsRow (w.heap.size + 1) 3 1 l k (((L.take k).map (·.1)).map (Value.int .i64)) ∧ mblk wr w.heap.size = some (.cells cs 62) ∧ Up w wr) (fun _ _ i _ => L.length - (intOf i).toNat)
  case atStart => exact ⟨0, Nat.zero_le _, rfl, by simpa using World.ownsRow_nil _ _ _ _, blk_new _ _ _ rfl, (Up.refl _).alloc _⟩
  case round =>
    obtain ⟨k, hk, rfl, hown, k1, U1⟩ := hrel
    have l1 := blk_lt k1
    by_cases hlt : k < L.length
    · have dd := HD.out.up U1
      have e1 := dd.day k hlt
      have e2 := dd.plus k hlt
      have e3 := dd.lt
      generalize hz : L.getD k (0, false) = z at *
      have hts := Lib.hid (show (L.take (k + 1)).map (·.1) = (L.take k).map (·.1) ++ [z.1] by
        rw [List.take_succ_eq_append_getElem hlt, List.map_append, ← hz, List.getD_eq_getElem?_getD, List.getElem?_eq_getElem hlt]; rfl)
      clear hz dd
      go_wp2_with (at_builtin; refine wpList_append_own _ rfl (.tmp 19) (.tmp 22) 45 rfl (w.heap.size + 1) 3 i0 (.int .i64 0) 1 8 Try.underlying45 hi hz0 hz1 hz2 rfl (by decide) _ k _ rfl ((hown.alloc _).alloc _) ⟨wr.heap.size + 1, 0, none⟩ 1 1 [.int .i64 z.1] rfl rfl (cell_one_at _ _ _ _ (by simp)) (by simp [Value.oneCell']) (by unfold maxLen; omega) (by omega) (by simp; omega) ?_; intro v' w3 hown3 hgrow3 _)
      have k3 := grown_blk hgrow3 (blk_keep _ (blk_keep _ k1)) (own_ne hown (by omega))
      have U3 := ((U1.alloc _).alloc _).grown hgrow3 (fun j hj => by have := own_block hown hj; omega)
      clear hgrow3 hown e1 e2 e3 U1 k1
      go_wp2
      go_roundw
      case rel => exact ⟨k + 1, by omega, by go_num, by rw [hts.out, List.map_append]; exact hown3, k3, U3⟩
      case measure => simp [intOf]; omega
    · obtain rfl : k = L.length := by omega
      obtain ⟨g', cap, rfl⟩ := Joins.ownsRow_form hown hn0
      rw [List.take_length] at hown
      have KI := increasing_isDay (fun k => inB k 0 (d - 1)) cs (fun n w => isDay_any C n w d1 d2) (-1) g' cap (L.map (·.1)) wr (by rw [List.length_map]; omega)
        (fun _ => by
          have := hown.cellAt 0 (by omega)
          rw [List.getElem?_eq_getElem (by simp; omega)] at this
          exact World.block_lt_of_cell? _ _ this)
        (fun k hk => by
          rw [List.length_map] at hk
          rw [hown.cellAt k (by omega), List.getElem?_map, List.getD_eq_getElem?_getD, List.getElem?_eq_getElem (by rw [List.length_map]; exact hk)]
          rfl)
      rw [List.length_map] at KI
      have HK := Lib.hid KI
      clear KI hown
      go_wp2_with fail
      refine HK.out.mono ?_
      rintro e w3 ⟨rfl, u3⟩
      go_wp2
      go_ret
      exact ⟨rfl, U1.trans u3⟩

end Go.Proofs.Ytghelfbigbdkkaa
