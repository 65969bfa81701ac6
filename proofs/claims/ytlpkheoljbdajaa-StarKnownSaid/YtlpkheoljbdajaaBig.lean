import Derived.Test.YtlpkheoljbdajaaNum
import Derived.Laws.ResultCell
/- A whole book, a whole web is read, stored, built as one step. -/
namespace Go.Proofs.Ytlpkheoljbdajaa
open Go.RowKit

/-- a web: a book and its ties -/
abbrev WeC (N bl bh rl rh : Int) (P Q L : Value) (o : Nat → Bool) (T : Value) : Array Value := #[.int .i64 N, .int .i64 bl, .int .i64 bh, .int .i64 rl, .int .i64 rh, P, Q, L, .bool (o 0), .bool (o 1), .bool (o 2), .bool (o 3), .bool (o 4), .bool (o 5), .bool (o 6), .bool (o 7), .bool (o 8), .bool (o 9), T]
abbrev WeV (N bl bh rl rh : Int) (P Q L : Value) (o : Nat → Bool) (T : Value) : Value := .agg (WeC N bl bh rl rh P Q L o T)
def bookLoad (v : Value) : Sem Value := Instr.loadAt 81 v
theorem bookLoad_eq (v : Value) : Instr.loadAt 81 v = bookLoad v := rfl
theorem infoBook : (Try.prog.info? 81).map (·.size) = some 18 := by kernel_rfl
theorem run_bookLoad (w : World) (b : Nat) (cs : Array Value) (hg : mblk w b = some (.cells cs 81 (0, 0))) (hs : cs.size = 18) : (bookLoad (.pointer (some ⟨b, 0, none⟩))).run Try.prog w = .ok (.agg cs) w := by
  have q := run_loadVar_row w b 81 81 _ (0, 0) _ hg Try.underlying81 rfl (by rw [infoBook, hs])
  simp only [bookLoad, Instr.loadAt, Instr.sureAddr, Sem.run_bind, Sem.run_pure, Result.andThen_ok, q]
attribute [go_sem ↓] bookLoad_eq
attribute [go_sem] run_bookLoad
def webLoad (v : Value) : Sem Value := Instr.loadAt 90 v
theorem webLoad_eq (v : Value) : Instr.loadAt 90 v = webLoad v := rfl
theorem infoWeb : (Try.prog.info? 90).map (·.size) = some 19 := by kernel_rfl
theorem run_webLoad (w : World) (b : Nat) (cs : Array Value) (hg : mblk w b = some (.cells cs 90 (0, 0))) (hs : cs.size = 19) : (webLoad (.pointer (some ⟨b, 0, none⟩))).run Try.prog w = .ok (.agg cs) w := by
  have q := run_loadVar_row w b 90 90 _ (0, 0) _ hg Try.underlying90 rfl (by rw [infoWeb, hs])
  simp only [webLoad, Instr.loadAt, Instr.sureAddr, Sem.run_bind, Sem.run_pure, Result.andThen_ok, q]
attribute [go_sem ↓] webLoad_eq
attribute [go_sem] run_webLoad
/-- a web's book -/
theorem run_bookLoad_web (w : World) (b : Nat) {N bl bh rl rh : Int} {P Q L T : Value} {o : Nat → Bool} (hg : mblk w b = some (.cells (WeC N bl bh rl rh P Q L o T) 90 (0, 0))) : (bookLoad (.pointer (some ⟨b, 0, none⟩))).run Try.prog w = .ok (BkV N bl bh rl rh P Q L o) w := by
  have hl : (loadCells ⟨b, 0, none⟩ (BkC N bl bh rl rh P Q L o).toList.length).run Try.prog w = .ok (BkC N bl bh rl rh P Q L o).toList.toArray w :=
    run_loadCells_list (P := Try.prog) w ⟨b, 0, none⟩ (BkC N bl bh rl rh P Q L o).toList (fun j v hv => by
      have hj : j < 18 := (List.getElem?_eq_some_iff.1 hv).1
      have hadd : (⟨b, 0, none⟩ : Addr).add j = ⟨b, j, none⟩ := by unfold Addr.add; split <;> simp_all
      rw [hadd, cellB hg, ← hv]
      match j, hj with
      | 0, _ => rfl
      | 1, _ => rfl
      | 2, _ => rfl
      | 3, _ => rfl
      | 4, _ => rfl
      | 5, _ => rfl
      | 6, _ => rfl
      | 7, _ => rfl
      | 8, _ => rfl
      | 9, _ => rfl
      | 10, _ => rfl
      | 11, _ => rfl
      | 12, _ => rfl
      | 13, _ => rfl
      | 14, _ => rfl
      | 15, _ => rfl
      | 16, _ => rfl
      | 17, _ => rfl)
  have e := infoBook
  cases hq : Try.prog.info? 81 with
  | none => simp [hq] at e
  | some i =>
    have hi : i.size = (BkC N bl bh rl rh P Q L o).size := by simpa [hq] using e
    have hagg : (isAgg 81).run Try.prog w = .ok true w := by
      unfold isAgg
      rw [Sem.run_bind, run_underlying Try.underlying81 w]
      rfl
    simp only [bookLoad, Instr.loadAt, Instr.sureAddr, Sem.run_bind, Sem.run_pure, Result.andThen_ok]
    simp [loadVar, Sem.run_bind, hagg, sizeOf, typeInfo, hq, hi] at hl ⊢
    simp [hl]
def bookStore (p v : Value) : Sem Unit := Instr.storeAt 81 p v
theorem bookStore_eq (p v : Value) : Instr.storeAt 81 p v = bookStore p v := rfl
def Ok18 (cs : Array Value) : Prop := cs.size = 18 ∧ cs.all (·.oneCell') = true
theorem ok18 (N bl bh rl rh : Int) (a1 a2 a3 : Option Addr) (n1 n2 n3 c1 c2 c3 : Nat) (o : Nat → Bool) : Ok18 (BkC N bl bh rl rh (.slice a1 n1 c1) (.slice a2 n2 c2) (.slice a3 n3 c3) o) := ⟨rfl, by simp [Value.oneCell']⟩
theorem run_bookStore_row (w : World) (b : Nat) (c cs : Array Value) (hg : mblk w b = some (.cells c 81 (0, 0))) (ho : c.size = 18) (hs : Ok18 cs) : (bookStore (.pointer (some ⟨b, 0, none⟩)) (.agg cs)).run Try.prog w = .ok () (w.setRow b cs) := by
  have q := run_storeVar_row (P := Try.prog) w b 81 81 c cs hg (by rw [infoBook, hs.1]) (by rw [ho, hs.1]) hs.2
  simp only [bookStore, Instr.storeAt, Instr.sureAddr, Sem.run_bind, Sem.run_pure, Result.andThen_ok, q]
attribute [go_sem] ok18
attribute [go_sem ↓] bookStore_eq
attribute [go_sem] run_bookStore_row
def webStore (p v : Value) : Sem Unit := Instr.storeAt 90 p v
theorem webStore_eq (p v : Value) : Instr.storeAt 90 p v = webStore p v := rfl
def Ok19 (cs : Array Value) : Prop := cs.size = 19 ∧ cs.all (·.oneCell') = true
theorem ok19 (N bl bh rl rh : Int) (a1 a2 a3 a4 : Option Addr) (n1 n2 n3 n4 c1 c2 c3 c4 : Nat) (o : Nat → Bool) : Ok19 (WeC N bl bh rl rh (.slice a1 n1 c1) (.slice a2 n2 c2) (.slice a3 n3 c3) o (.slice a4 n4 c4)) := ⟨rfl, by simp [Value.oneCell']⟩
theorem run_webStore_row (w : World) (b : Nat) (c cs : Array Value) (hg : mblk w b = some (.cells c 90 (0, 0))) (ho : c.size = 19) (hs : Ok19 cs) : (webStore (.pointer (some ⟨b, 0, none⟩)) (.agg cs)).run Try.prog w = .ok () (w.setRow b cs) := by
  have q := run_storeVar_row (P := Try.prog) w b 90 90 c cs hg (by rw [infoWeb, hs.1]) (by rw [ho, hs.1]) hs.2
  simp only [webStore, Instr.storeAt, Instr.sureAddr, Sem.run_bind, Sem.run_pure, Result.andThen_ok, q]
attribute [go_sem] ok19
attribute [go_sem ↓] webStore_eq
attribute [go_sem] run_webStore_row
/-- no looks -/
abbrev T.o0 : Nat → Bool := fun _ => false
def bookBuild (ps : Array (Nat × Value)) : Sem Value := Instr.build 81 ps
theorem bookBuild_eq (ps : Array (Nat × Value)) : Instr.build 81 ps = bookBuild ps := rfl
theorem run_bookBuild (N bl bh rl rh : Int) (P Q L : Value) (w : World) : (bookBuild #[(0, BoV N bl bh rl rh P Q L)]).run Try.prog w = .ok (BkV N bl bh rl rh P Q L T.o0) w := by kernel_rfl
theorem run_bookBuild_no (w : World) : (bookBuild #[]).run Try.prog w = .ok (BkV 0 0 0 0 0 (.slice none 0 0) (.slice none 0 0) (.slice none 0 0) T.o0) w := by kernel_rfl
attribute [go_sem ↓] bookBuild_eq
attribute [go_sem] run_bookBuild run_bookBuild_no
def webBuild (ps : Array (Nat × Value)) : Sem Value := Instr.build 90 ps
theorem webBuild_eq (ps : Array (Nat × Value)) : Instr.build 90 ps = webBuild ps := rfl
theorem run_webBuild (N bl bh rl rh : Int) (P Q L : Value) (o : Nat → Bool) (w : World) : (webBuild #[(0, BkV N bl bh rl rh P Q L o)]).run Try.prog w = .ok (WeV N bl bh rl rh P Q L o (.slice none 0 0)) w := by kernel_rfl
theorem run_webBuild_no (w : World) : (webBuild #[]).run Try.prog w = .ok (WeV 0 0 0 0 0 (.slice none 0 0) (.slice none 0 0) (.slice none 0 0) T.o0 (.slice none 0 0)) w := by kernel_rfl
theorem setRow_new (w : World) (c c' : Array Value) (t : TypeId) (n : Nat) (hn : n = w.heap.size) : (w.alloc (.cells c t)).setRow n c' = w.alloc (.cells c' t) := by subst hn; exact World.setRow_alloc_new w c c' t
attribute [go_sem] setRow_new
attribute [go_sem ↓] webBuild_eq
attribute [go_sem] run_webBuild run_webBuild_no
theorem results_bk {fn : Func} {p u : Tmp} (h : fn.results = #[.cell p 81, .tmp u]) (tmps : Array Value) (w : World) (g : Nat) (cs : Array Value) (hp : tmps.getD p undef = .pointer (some ⟨g, 0, none⟩)) (hg : mblk w g = some (.cells cs 81 (0, 0))) (hs : cs.size = 18) :
    (results fn tmps).run Try.prog w = .ok (.tuple #[.agg cs, tmps.getD u undef]) w := by
  rw [results_cell_tmp h, hp]
  simp only [asAddr, Sem.run_pure, Result.andThen_ok, run_loadVar_row w g 81 81 cs (0, 0) _ hg Try.underlying81 rfl (by rw [infoBook, hs])]
theorem results_we {fn : Func} {p u : Tmp} (h : fn.results = #[.cell p 90, .tmp u]) (tmps : Array Value) (w : World) (g : Nat) (cs : Array Value) (hp : tmps.getD p undef = .pointer (some ⟨g, 0, none⟩)) (hg : mblk w g = some (.cells cs 90 (0, 0))) (hs : cs.size = 19) :
    (results fn tmps).run Try.prog w = .ok (.tuple #[.agg cs, tmps.getD u undef]) w := by
  rw [results_cell_tmp h, hp]
  simp only [asAddr, Sem.run_pure, Result.andThen_ok, run_loadVar_row w g 90 90 cs (0, 0) _ hg Try.underlying90 rfl (by rw [infoWeb, hs])]
theorem results_w1 {fn : Func} {p : Tmp} (h : fn.results = #[.cell p 90]) (tmps : Array Value) (w : World) (g : Nat) (cs : Array Value) (hp : tmps.getD p undef = .pointer (some ⟨g, 0, none⟩)) (hg : mblk w g = some (.cells cs 90 (0, 0))) (hs : cs.size = 19) :
    (results fn tmps).run Try.prog w = .ok (.agg cs) w := by
  have q := run_loadVar_row w g 90 90 cs (0, 0) _ hg Try.underlying90 rfl (by rw [infoWeb, hs])
  have hp' : tmps[p]?.getD undef = .pointer (some ⟨g, 0, none⟩) := by simpa using hp
  simp only [results, h]
  simp [hp', asAddr, q]

end Go.Proofs.Ytlpkheoljbdajaa
