import Derived.Test.YtfmnfingliflkaaRowD
import Derived.SizedLaws
/- How many decrees and changes can be read before a call. -/
namespace Go.Proofs.Ytfmnfingliflkaa
open Go.ChangeShapes Go.WideShapes Go.RowKit Go.Deep

section
variable {H : Type} {enc : TypeId × Value → H} {w : World} {base : Nat} {spare : Nat → Bool} {held : Bool}
theorem decreeBytes : Try.prog.bytesOf 64 = 16 := by kernel_rfl
theorem open_decs_reach {fuel : Nat} {a : Option Addr} {n c : Nat} {x : DataW H × List MemPlace} (h : DataW.trod enc Try.prog w base spare held fuel 22 [.slice a n c] = some x) (hr : ∀ k ∈ x.1.weights Try.prog 22, k ≤ reachBytes) : n ≤ 17592186044000 := by
  rcases open_slice Try.underlying22 h with ⟨hcs, _⟩ | ⟨a', len, cap, m, n', Dd, Pl, hcs, hb, hl, hm, hmm, hx, hi⟩
  · simp at hcs; omega
  · simp at hcs
    obtain ⟨_, rfl, _⟩ := hcs
    subst hx
    have := hr _ (by simp only [DataW.weights, Try.underlying22, List.mem_cons]; exact .inl rfl)
    rw [decreeBytes] at this
    simp only [List.length_map, List.length_range, reachBytes] at this
    omega
set_option maxRecDepth 100000 in
theorem open_cal_reach {fuel : Nat} {h m s d : Int} {a : Option Addr} {n c : Nat} {x : DataW H × List MemPlace} (hh : DataW.trod enc Try.prog w base spare held fuel 24 [.int .i64 h, .int .i64 m, .int .i64 s, .int .i64 d, .slice a n c] = some x) (hr : ∀ k ∈ x.1.weights Try.prog 24, k ≤ reachBytes) : n ≤ 17592186044000 := by
  obtain ⟨xs, k, _, hx, hlen, hxl, hg⟩ := DataW.trod_struct Try.underlying24 hh
  have es : Try.prog.cellsOf 22 = 1 := by kernel_rfl
  have g4 := hg 4 _ rfl
  simp only [List.getElem_toArray, List.getElem_cons_zero, List.getElem_cons_succ, es, List.drop_zero, List.drop_succ_cons, List.take_succ_cons, List.take_zero] at g4
  have hz : xs.length = 5 := hxl
  rw [List.getElem?_eq_getElem (by omega)] at g4
  subst hx
  refine open_decs_reach g4 (fun q hq => hr q ?_)
  simp only [DataW.weights, Try.underlying24]
  exact DataW.weights_mem_each (j := 4) (t := 22) rfl (by rw [List.getElem?_map, List.getElem?_eq_getElem (by omega)]; rfl) q hq
theorem reach_at {P : Program} {ts : List TypeId} {ds : List (DataW H)} (h : (DataW.weightsEach P ts ds).all (· ≤ reachBytes) = true) {j : Nat} {t : TypeId} {d : DataW H} (ht : ts[j]? = some t) (hd : ds[j]? = some d) : ∀ k ∈ d.weights P t, k ≤ reachBytes := fun k hk => by
  have := List.all_eq_true.1 h _ (DataW.weights_mem_each ht hd k hk)
  simpa using this
set_option maxRecDepth 100000 in
theorem open_rd2 {fuel : Nat} {cs : List Value} {x : DataW H × List MemPlace} (h : DataW.trod enc Try.prog w base spare held fuel 38 cs = some x) :
    ∃ a0 a1 a2 a3 b0 b1 b2 b3, cs = [.int .i64 a0, .int .i64 a1, .int .i64 a2, .int .i64 a3, .int .i64 b0, .int .i64 b1, .int .i64 b2, .int .i64 b3] := by
  obtain ⟨xs, m, _, _, hlen, hxl, hg⟩ := DataW.trod_array Try.underlying38 h
  have ec : Try.prog.cellsOf 38 = 8 := by kernel_rfl
  rw [ec] at hlen
  have g0 := hg 0 (by omega)
  have g1 := hg 1 (by omega)
  rw [List.getElem?_eq_getElem (by omega), rdCells] at g0 g1
  match cs, hlen with
  | [v0, v1, v2, v3, v4, v5, v6, v7], _ =>
    obtain ⟨a0, a1, a2, a3, e0, _⟩ := open_rd g0
    obtain ⟨b0, b1, b2, b3, e1, _⟩ := open_rd g1
    simp at e0 e1
    obtain ⟨rfl, rfl, rfl, rfl⟩ := e0
    obtain ⟨rfl, rfl, rfl, rfl⟩ := e1
    exact ⟨_, _, _, _, _, _, _, _, rfl⟩
set_option maxRecDepth 100000 in
theorem open_Town_reach {fuel : Nat} {h m s d ah : Int} {a a' : Option Addr} {n c n' c' : Nat} {x : DataW H × List MemPlace} (hh : DataW.trod enc Try.prog w base spare held fuel 46 [.int .i64 h, .int .i64 m, .int .i64 s, .int .i64 d, .slice a n c, .int .i64 ah, .slice a' n' c'] = some x) (hr : ∀ k ∈ x.1.weights Try.prog 46, k ≤ reachBytes) : n ≤ 17592186044000 := by
  obtain ⟨xs, k, _, hx, hlen, hxl, hg⟩ := DataW.trod_struct Try.underlying46 hh
  have es : Try.prog.cellsOf 24 = 5 := by kernel_rfl
  have g0 := hg 0 _ rfl
  simp only [List.getElem_toArray, List.getElem_cons_zero, es, List.drop_zero, List.take_succ_cons, List.take_zero] at g0
  have hz : xs.length = 2 := hxl
  rw [List.getElem?_eq_getElem (by omega)] at g0
  subst hx
  refine open_cal_reach g0 (fun q hq => hr q ?_)
  simp only [DataW.weights, Try.underlying46]
  exact DataW.weights_mem_each (j := 0) (t := 24) rfl (by rw [List.getElem?_map, List.getElem?_eq_getElem (by omega)]; rfl) q hq
end

end Go.Proofs.Ytfmnfingliflkaa
