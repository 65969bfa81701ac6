import Derived.Test.YtnaibklajocejaaTownF
import Derived.Laws.OwnMore
/- The contract of dial's periods. -/
namespace Go.Proofs.Ytnaibklajocejaa
open Go.RowKit

/-- a town's periods, three numbers each: from, until, ahead -/
def D.pers (T : Int) : Int → Int → List (Int × Int) → List Int
  | f, a, [] => [f, T, a]
  | f, a, z :: M => f :: z.1 :: a :: D.pers T z.1 z.2 M
theorem D.pers_len (T f a : Int) (M : List (Int × Int)) : (D.pers T f a M).length = (M.length + 1) * 3 := by
  induction M generalizing f a with
  | nil => rfl
  | cons z M ih => simp only [D.pers, List.length_cons, ih]; omega
theorem D.pers_snoc (T f a : Int) (M : List (Int × Int)) (z : Int × Int) : D.pers T f a (M ++ [z]) = (D.pers T f a M).set (M.length * 3 + 1) z.1 ++ [z.1, T, z.2] := by
  induction M generalizing f a with
  | nil => rfl
  | cons y M ih =>
    have e : (M.length + 1) * 3 + 1 = (M.length * 3 + 1) + 1 + 1 + 1 := by omega
    simp only [List.cons_append, D.pers, List.length_cons, ih, e, List.set_cons_succ]
theorem cell_three_at (w : World) (x y z : Value) (t : TypeId) (n : Nat) (hn : n = w.heap.size) : ∀ j u, [x, y, z][j]? = some u → (w.alloc (.cells #[x, y, z] t)).cell? ((⟨n, 0, none⟩ : Addr).add j) = some u := by
  subst hn
  intro j u hj
  match j, hj with
  | 0, hj => simp at hj; subst hj; simp [Addr.add]
  | 1, hj => simp at hj; subst hj; simp [Addr.add]
  | 2, hj => simp at hj; subst hj; simp [Addr.add]

theorem Try.infoPeriod : (Try.prog.info? 125).map (fun i => (i.zero, i.size, i.bytes)) = some (some (.agg #[.int .i64 0, .int .i64 0, .int .i64 0]), 3, 24) := by kernel_rfl

set_option maxRecDepth 100000 in
set_option maxHeartbeats 1000000 in
theorem periods_any {ts cs : Array Value} {ah : Int} {a' : Option Addr} {n' c' : Nat} (T : Town ts cs ah a' n' c') {tot : Int} (KT : ∀ w, Calls Try.prog 56 #[.agg cs] w fun e w' => e = .returned (.int .i64 tot) ∧ Up w w') {M : List (Int × Int)} {w : World} (B : TownArg w a' n' c' M) (hn : n' ≤ 6) :
    Calls Try.prog 94 #[.agg ts] w fun e w' => ∃ g cap, e = .returned (.slice (some ⟨g, 0, none⟩) (n' + 1) cap) ∧ Up w w' ∧ w.heap.size ≤ g ∧ g < w'.heap.size ∧ ∀ j, j < (n' + 1) * 3 → w'.cell? ⟨g, j, none⟩ = ((D.pers tot 0 ah M).map (Value.int .i64))[j]? := by
  have hs := Lib.hid T.sz
  have t15 := T.t15
  have t16 := T.t16
  have hT := T.cal
  have HB := Lib.hid B
  have HK := Lib.hid KT
  obtain ⟨i0, hi, hz0, hz1, hz2⟩ := info_parts Try.infoPeriod
  clear T B KT
  go_enter Try.func94, Try.ntmps94
  go_wp2_with fail
  refine (HK.out _).mono ?_
  rintro e w1 ⟨rfl, u1⟩
  have k1 := u1.blk (blk_new w (.cells ts 101) _ rfl)
  have U1 := ((Up.refl w).alloc (.cells ts 101)).trans u1
  have z1 := u1.size
  rw [World.size_alloc] at z1
  clear u1
  go_wp2_with fail
  go_loopw [4, 5, 6, 20] (fun l _ _ i wr => ∃ k : Nat, k ≤ n' ∧ i = .int .i64 k ∧ wr.ownsRow (w.heap.size + 1) 125 3 l (k + 1) ((D.pers tot 0 ah (M.take k)).map (Value.int .i64)) ∧ mblk wr w.heap.size = some (.cells ts 101) ∧ Up w wr) (fun _ _ _ i _ => n' - (intOf i).toNat)
  case atStart => exact ⟨0, Nat.zero_le _, rfl, World.ownsRow_lit w1 _ 1 z1 (by decide) rfl, blk_keep _ k1, U1.alloc _⟩
  case round =>
    obtain ⟨k, hk, rfl, hown, k1, U1⟩ := hrel
    have l1 := blk_lt k1
    by_cases hlt : k < n'
    · obtain ⟨b, off, rfl, hC⟩ := HB.out.mem (by omega)
      have dd := hC.up U1
      have hltM : k < M.length := by rw [← HB.out.len]; exact hlt
      have e1 := dd.tick k hltM
      have e2 := dd.ahead k hltM
      have e3 := dd.lt
      generalize hz : M.getD k (0, 0) = z at *
      have hlk : (M.take k).length = k := by rw [List.length_take]; omega
      have hts := Lib.hid (show (D.pers tot 0 ah (M.take (k + 1))).map (Value.int .i64) = ((D.pers tot 0 ah (M.take k)).map (Value.int .i64)).set (k * 3 + 1) (.int .i64 z.1) ++ [.int .i64 z.1, .int .i64 tot, .int .i64 z.2] by
        rw [List.take_succ_eq_append_getElem hltM, D.pers_snoc, hlk, ← hz, List.getD_eq_getElem?_getD, List.getElem?_eq_getElem hltM, List.map_append, List.map_set]; rfl)
      have hll : ((D.pers tot 0 ah (M.take k)).map (Value.int .i64)).length = (k + 1) * 3 := by rw [List.length_map, D.pers_len, hlk]
      generalize (D.pers tot 0 ah (M.take k)).map (Value.int .i64) = xs at *
      obtain ⟨g, cap, rfl⟩ := Joins.ownsRow_form hown (by omega)
      have hg0 := own_block hown (k := g) rfl
      have hgz := (hown.lt g rfl).2
      have hown2 := hown.alloc (.cells #[.int .i64 z.1, .int .i64 z.2] 82)
      obtain ⟨hown3, hgrow3⟩ := hown.stored (k * 3 + 1) (.int .i64 z.1)
      have fz := hown2.frozenAt (k * 3 + 1)
      have fc : ∃ q, (wr.alloc (.cells #[.int .i64 z.1, .int .i64 z.2] 82)).cell? ⟨g, k * 3 + 1, none⟩ = some q := ⟨_, (hown2.cellAt (k * 3 + 1) (by omega)).trans (List.getElem?_eq_getElem (by omega))⟩
      obtain ⟨q, fc⟩ := fc
      clear hz dd hC hlk hll hltM
      go_wp2_with (at_builtin; go_loud (refine wpList_append_own _ rfl (.tmp 31) (.tmp 38) 122 rfl (w.heap.size + 1) 125 i0 (.agg #[.int .i64 0, .int .i64 0, .int .i64 0]) 3 24 Try.underlying122 hi hz0 hz1 hz2 rfl (by decide) _ (k + 1) _ rfl ((hown3.alloc _).alloc _) ⟨wr.heap.size + 1, 0, none⟩ 1 1 [.int .i64 z.1, .int .i64 tot, .int .i64 z.2] rfl rfl (cell_three_at _ _ _ _ _ _ (by simp)) (by simp [Value.oneCell']) (by unfold maxLen; omega) (by omega) (by simp; omega) ?_; intro v' w3 hown4 hgrow4 _))
      have k3 := grown_blk hgrow4 (blk_keep _ (blk_keep _ (grown_blk hgrow3 k1 (by intro q; injection q; omega)))) (own_ne hown (by omega))
      have U3 := (((U1.grown hgrow3 (by rintro j ⟨⟩; omega)).alloc _).alloc _).grown hgrow4 (fun j hj => by have := own_block hown hj; omega)
      clear hgrow3 hgrow4 hown hown2 hown3 e1 e2 e3 U1 k1 fz fc
      go_wp2
      go_roundw
      case rel => exact ⟨k + 1, by omega, by go_num, by rw [hts.out]; exact hown4, k3, U3⟩
      case measure => simp [intOf]; omega
    · obtain rfl : k = n' := by omega
      obtain ⟨g, cap, rfl⟩ := Joins.ownsRow_form hown (by omega)
      have hM : M.take k = M := List.take_of_length_le (by rw [← HB.out.len]; exact Nat.le_refl _)
      rw [hM] at hown
      have hg0 := own_block hown (k := g) rfl
      have hgz := (hown.lt g rfl).2
      go_wp2
      go_ret
      exact ⟨g, cap, rfl, U1, by omega, hgz, fun j hj => hown.cellAt j hj⟩

end Go.Proofs.Ytnaibklajocejaa
