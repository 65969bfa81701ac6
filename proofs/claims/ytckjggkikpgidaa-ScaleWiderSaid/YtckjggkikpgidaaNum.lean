import Derived.Test.YtckjggkikpgidaaMos
/- The contracts of scale's spans: turned, both, nearest. -/
namespace Go.Proofs.Ytckjggkikpgidaa
open Go.RowKit

set_option maxRecDepth 100000 in
theorem turned_any (l h : Int) (w : World) (l1 : -10000000 ≤ l) (l2 : l ≤ 10000000) (h1 : -10000000 ≤ h) (h2 : h ≤ 10000000) : Calls Try.prog 119 #[SpV l h] w fun e w' => e = .returned (SpV (-h) (-l)) ∧ Up w w' := by
  have U := (Up.refl w).alloc (.cells #[.int .i64 l, .int .i64 h] 23)
  go_enter Try.func119, Try.ntmps119
  go_wp2
  exact bodyPost_ret (v := SpV (-h) (-l)) (by simp [results, Try.results119, go_sem]) rfl ⟨rfl, U.alloc _⟩
set_option maxRecDepth 100000 in
theorem nearest_any (l h : Int) (w : World) : Calls Try.prog 96 #[SpV l h] w fun e w' => e = .returned (.int .i64 (max l (min h 0))) ∧ Up w w' := by
  have U := (Up.refl w).alloc (.cells #[.int .i64 l, .int .i64 h] 23)
  have hMn : ∀ (ts : Array TypeId) (t' : TypeId) (w : World), (Builtin.min_ ts t' #[.int .i64 h, .int .i64 0]).run Try.prog w = .ok (.int .i64 (min h 0)) w := fun ts t' w => by
    have e : (if 0 < h then 0 else h) = min h 0 := by split <;> omega
    rw [run_min_int2, e]
  have hMx : ∀ (ts : Array TypeId) (t' : TypeId) (w : World), (Builtin.max_ ts t' #[.int .i64 l, .int .i64 (min h 0)]).run Try.prog w = .ok (.int .i64 (max l (min h 0))) w := fun ts t' w => by
    have e : (if min h 0 > l then min h 0 else l) = max l (min h 0) := by split <;> omega
    rw [run_max_int2, e]
  generalize max l (min h 0) = a at *
  generalize min h 0 = b at *
  go_enter Try.func96, Try.ntmps96
  go_wp2
  go_ret
  exact ⟨rfl, U⟩
set_option maxRecDepth 100000 in
theorem both_any (l h l' h' : Int) (w : World) : Calls Try.prog 109 #[SpV l h, SpV l' h'] w fun e w' => e = .returned (SpV (max l l') (min h h')) ∧ Up w w' := by
  have U := ((Up.refl w).alloc (.cells #[.int .i64 l, .int .i64 h] 23)).alloc (.cells #[.int .i64 l', .int .i64 h'] 23)
  have hMn : ∀ (ts : Array TypeId) (t' : TypeId) (w : World), (Builtin.min_ ts t' #[.int .i64 h, .int .i64 h']).run Try.prog w = .ok (.int .i64 (min h h')) w := fun ts t' w => by
    have e : (if h' < h then h' else h) = min h h' := by split <;> omega
    rw [run_min_int2, e]
  have hMx : ∀ (ts : Array TypeId) (t' : TypeId) (w : World), (Builtin.max_ ts t' #[.int .i64 l, .int .i64 l']).run Try.prog w = .ok (.int .i64 (max l l')) w := fun ts t' w => by
    have e : (if l' > l then l' else l) = max l l' := by split <;> omega
    rw [run_max_int2, e]
  generalize max l l' = a at *
  generalize min h h' = b at *
  go_enter Try.func109, Try.ntmps109
  go_wp2
  exact bodyPost_ret (v := SpV a b) (by simp [results, Try.results109, go_sem]) rfl ⟨rfl, U.alloc _⟩

end Go.Proofs.Ytckjggkikpgidaa
