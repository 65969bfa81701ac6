import Derived.Deep.Cut
import Derived.Test.YtghelfbigbdkkaaFKnA
/- The law DialKnown: the wrong calendars, towns and readings, in memory. -/
namespace Go.Proofs.Ytghelfbigbdkkaa
open Go.RowKit

def Kn.Cals (w : World) (g : Nat) : Prop := ∀ j, j < 9 → ∃ (h m s d : Int) (a : Option Addr) (n c : Nat) (L : List (Int × Bool)), w.cell? ⟨g, j * 5, none⟩ = some (.int .i64 h) ∧ w.cell? ⟨g, j * 5 + 1, none⟩ = some (.int .i64 m) ∧ w.cell? ⟨g, j * 5 + 2, none⟩ = some (.int .i64 s) ∧ w.cell? ⟨g, j * 5 + 3, none⟩ = some (.int .i64 d) ∧ w.cell? ⟨g, j * 5 + 4, none⟩ = some (.slice a n c) ∧ CalArg w a n c L ∧ D.valid h m s d L = false
theorem Kn.cals {w : World} {g b1 b2 b3 b4 b5 b6 b7 g9 : Nat} (h : mblk w g = some (.cells #[.int .i64 0, .int .i64 0, .int .i64 0, .int .i64 0, .slice none 0 0, .int .i64 25, .int .i64 4, .int .i64 10, .int .i64 2, .slice (some ⟨b1, 0, none⟩) 1 1, .int .i64 3, .int .i64 61, .int .i64 10, .int .i64 2, .slice (some ⟨b2, 0, none⟩) 1 1, .int .i64 3, .int .i64 4, .int .i64 1, .int .i64 2, .slice (some ⟨b3, 0, none⟩) 1 1, .int .i64 3, .int .i64 4, .int .i64 10, .int .i64 11, .slice (some ⟨b4, 0, none⟩) 1 1, .int .i64 3, .int .i64 4, .int .i64 61, .int .i64 2, .slice (some ⟨b5, 0, none⟩) 1 1, .int .i64 3, .int .i64 4, .int .i64 10, .int .i64 2, .slice (some ⟨b6, 0, none⟩) 1 1, .int .i64 3, .int .i64 4, .int .i64 10, .int .i64 2, .slice (some ⟨b7, 0, none⟩) 1 1, .int .i64 3, .int .i64 4, .int .i64 10, .int .i64 2, .slice (some ⟨g9, 0, none⟩) 2 2] 24 (0, 0))) (A1 : CalArg w (some ⟨b1, 0, none⟩) 1 1 [(0, true)]) (A2 : CalArg w (some ⟨b2, 0, none⟩) 1 1 [(0, true)]) (A3 : CalArg w (some ⟨b3, 0, none⟩) 1 1 [(0, true)]) (A4 : CalArg w (some ⟨b4, 0, none⟩) 1 1 [(0, true)]) (A5 : CalArg w (some ⟨b5, 0, none⟩) 1 1 [(0, true)]) (A6 : CalArg w (some ⟨b6, 0, none⟩) 1 1 [(2, true)]) (A7 : CalArg w (some ⟨b7, 0, none⟩) 1 1 [(-1, true)]) (h9 : mblk w g9 = some (.cells #[.int .i64 1, .bool false, .int .i64 1, .bool false] 28 (0, 0))) : Kn.Cals w g := by
  have A8 : CalArg w (some ⟨g9, 0, none⟩) 2 2 [(1, false), (1, false)] := ⟨rfl, by omega, fun _ => ⟨_, 0, rfl, blk_lt h9, fun j hj => by
      have : j = 0 ∨ j = 1 := by simp at hj; omega
      rcases this with rfl | rfl <;> (rw [cellB h9]; rfl), fun j hj => by
      have : j = 0 ∨ j = 1 := by simp at hj; omega
      rcases this with rfl | rfl <;> (rw [cellB h9]; rfl)⟩⟩
  intro j hj
  have : j = 0 ∨ j = 1 ∨ j = 2 ∨ j = 3 ∨ j = 4 ∨ j = 5 ∨ j = 6 ∨ j = 7 ∨ j = 8 := by omega
  rcases this with rfl | rfl | rfl | rfl | rfl | rfl | rfl | rfl | rfl
  · exact ⟨_, _, _, _, _, _, _, _, by rw [cellB h]; rfl, by rw [cellB h]; rfl, by rw [cellB h]; rfl, by rw [cellB h]; rfl, by rw [cellB h]; rfl, Kn.cal0 w, by kernel_rfl⟩
  · exact ⟨_, _, _, _, _, _, _, _, by rw [cellB h]; rfl, by rw [cellB h]; rfl, by rw [cellB h]; rfl, by rw [cellB h]; rfl, by rw [cellB h]; rfl, A1, by kernel_rfl⟩
  · exact ⟨_, _, _, _, _, _, _, _, by rw [cellB h]; rfl, by rw [cellB h]; rfl, by rw [cellB h]; rfl, by rw [cellB h]; rfl, by rw [cellB h]; rfl, A2, by kernel_rfl⟩
  · exact ⟨_, _, _, _, _, _, _, _, by rw [cellB h]; rfl, by rw [cellB h]; rfl, by rw [cellB h]; rfl, by rw [cellB h]; rfl, by rw [cellB h]; rfl, A3, by kernel_rfl⟩
  · exact ⟨_, _, _, _, _, _, _, _, by rw [cellB h]; rfl, by rw [cellB h]; rfl, by rw [cellB h]; rfl, by rw [cellB h]; rfl, by rw [cellB h]; rfl, A4, by kernel_rfl⟩
  · exact ⟨_, _, _, _, _, _, _, _, by rw [cellB h]; rfl, by rw [cellB h]; rfl, by rw [cellB h]; rfl, by rw [cellB h]; rfl, by rw [cellB h]; rfl, A5, by kernel_rfl⟩
  · exact ⟨_, _, _, _, _, _, _, _, by rw [cellB h]; rfl, by rw [cellB h]; rfl, by rw [cellB h]; rfl, by rw [cellB h]; rfl, by rw [cellB h]; rfl, A6, by kernel_rfl⟩
  · exact ⟨_, _, _, _, _, _, _, _, by rw [cellB h]; rfl, by rw [cellB h]; rfl, by rw [cellB h]; rfl, by rw [cellB h]; rfl, by rw [cellB h]; rfl, A7, by kernel_rfl⟩
  · exact ⟨_, _, _, _, _, _, _, _, by rw [cellB h]; rfl, by rw [cellB h]; rfl, by rw [cellB h]; rfl, by rw [cellB h]; rfl, by rw [cellB h]; rfl, A8, by kernel_rfl⟩
def Kn.Tows (w : World) (g : Nat) : Prop := ∀ j, j < 7 → ∃ (ah : Int) (a : Option Addr) (n c : Nat) (M : List (Int × Int)), w.cell? ⟨g, j * 2, none⟩ = some (.int .i64 ah) ∧ w.cell? ⟨g, j * 2 + 1, none⟩ = some (.slice a n c) ∧ TownArg w a n c M ∧ D.townE 3 4 10 2 [(0, true)] ah M = 12
theorem Kn.chgs {w : World} {b k : Nat} {cs : Array Value} (M : List (Int × Int)) (h : mblk w b = some (.cells cs 52 (0, 0))) (hk : k = M.length) (hm : k ≤ 100) (hc : ∀ j, j < M.length → cs[j * 2]? = some (.int .i64 (M.getD j (0, 0)).1) ∧ cs[j * 2 + 1]? = some (.int .i64 (M.getD j (0, 0)).2)) : TownArg w (some ⟨b, 0, none⟩) k k M :=
  ⟨hk, by omega, fun _ => ⟨_, 0, rfl, blk_lt h, fun j hj => by rw [cellB h, Nat.zero_add]; exact (hc j hj).1, fun j hj => by rw [cellB h, Nat.zero_add]; exact (hc j hj).2⟩⟩
theorem Kn.tows {w : World} {g t0 t1 t2 t3 t4 : Nat} (h : mblk w g = some (.cells #[.int .i64 1441, .slice none 0 0, .int .i64 (-1441), .slice none 0 0, .int .i64 0, .slice (some ⟨t0, 0, none⟩) 1 1, .int .i64 0, .slice (some ⟨t1, 0, none⟩) 1 1, .int .i64 0, .slice (some ⟨t2, 0, none⟩) 2 2, .int .i64 0, .slice (some ⟨t3, 0, none⟩) 1 1, .int .i64 0, .slice (some ⟨t4, 0, none⟩) 7 7] 44 (0, 0))) (h0 : mblk w t0 = some (.cells #[.int .i64 0, .int .i64 0] 52 (0, 0))) (h1 : mblk w t1 = some (.cells #[.int .i64 241, .int .i64 0] 52 (0, 0))) (h2 : mblk w t2 = some (.cells #[.int .i64 5, .int .i64 0, .int .i64 5, .int .i64 0] 52 (0, 0))) (h3 : mblk w t3 = some (.cells #[.int .i64 5, .int .i64 1441] 52 (0, 0))) (h4 : mblk w t4 = some (.cells #[.int .i64 1, .int .i64 0, .int .i64 2, .int .i64 0, .int .i64 3, .int .i64 0, .int .i64 4, .int .i64 0, .int .i64 5, .int .i64 0, .int .i64 6, .int .i64 0, .int .i64 7, .int .i64 0] 52 (0, 0))) : Kn.Tows w g := by
  have B0 : TownArg w (some ⟨t0, 0, none⟩) 1 1 [(0, 0)] := Kn.chgs _ h0 rfl (by omega) (fun j hj => by
    have : j = 0 := by simp at hj; omega
    subst this; exact ⟨rfl, rfl⟩)
  have B1 : TownArg w (some ⟨t1, 0, none⟩) 1 1 [(241, 0)] := Kn.chgs _ h1 rfl (by omega) (fun j hj => by
    have : j = 0 := by simp at hj; omega
    subst this; exact ⟨rfl, rfl⟩)
  have B2 : TownArg w (some ⟨t2, 0, none⟩) 2 2 [(5, 0), (5, 0)] := Kn.chgs _ h2 rfl (by omega) (fun j hj => by
    have : j = 0 ∨ j = 1 := by simp at hj; omega
    rcases this with rfl | rfl <;> exact ⟨rfl, rfl⟩)
  have B3 : TownArg w (some ⟨t3, 0, none⟩) 1 1 [(5, 1441)] := Kn.chgs _ h3 rfl (by omega) (fun j hj => by
    have : j = 0 := by simp at hj; omega
    subst this; exact ⟨rfl, rfl⟩)
  have B4 : TownArg w (some ⟨t4, 0, none⟩) 7 7 [(1, 0), (2, 0), (3, 0), (4, 0), (5, 0), (6, 0), (7, 0)] := Kn.chgs _ h4 rfl (by omega) (fun j hj => by
    have : j = 0 ∨ j = 1 ∨ j = 2 ∨ j = 3 ∨ j = 4 ∨ j = 5 ∨ j = 6 := by simp at hj; omega
    rcases this with rfl | rfl | rfl | rfl | rfl | rfl | rfl <;> exact ⟨rfl, rfl⟩)
  intro j hj
  have : j = 0 ∨ j = 1 ∨ j = 2 ∨ j = 3 ∨ j = 4 ∨ j = 5 ∨ j = 6 := by omega
  rcases this with rfl | rfl | rfl | rfl | rfl | rfl | rfl
  · exact ⟨1441, _, _, _, _, by rw [cellB h]; rfl, by rw [cellB h]; rfl, Kn.town0 w, by kernel_rfl⟩
  · exact ⟨(-1441), _, _, _, _, by rw [cellB h]; rfl, by rw [cellB h]; rfl, Kn.town0 w, by kernel_rfl⟩
  · exact ⟨0, _, _, _, _, by rw [cellB h]; rfl, by rw [cellB h]; rfl, B0, by kernel_rfl⟩
  · exact ⟨0, _, _, _, _, by rw [cellB h]; rfl, by rw [cellB h]; rfl, B1, by kernel_rfl⟩
  · exact ⟨0, _, _, _, _, by rw [cellB h]; rfl, by rw [cellB h]; rfl, B2, by kernel_rfl⟩
  · exact ⟨0, _, _, _, _, by rw [cellB h]; rfl, by rw [cellB h]; rfl, B3, by kernel_rfl⟩
  · exact ⟨0, _, _, _, _, by rw [cellB h]; rfl, by rw [cellB h]; rfl, B4, by kernel_rfl⟩
def Kn.Rds (w : World) (g : Nat) : Prop := ∀ j, j < 8 → ∃ p0 p1 p2 p3 : Int, w.cell? ⟨g, j * 4, none⟩ = some (.int .i64 p0) ∧ w.cell? ⟨g, j * 4 + 1, none⟩ = some (.int .i64 p1) ∧ w.cell? ⟨g, j * 4 + 2, none⟩ = some (.int .i64 p2) ∧ w.cell? ⟨g, j * 4 + 3, none⟩ = some (.int .i64 p3) ∧ D.tickV 3 4 10 2 [(0, true)] p0 p1 p2 p3 = (0, 4)
theorem Kn.rds {w : World} {g : Nat} (h : mblk w g = some (.cells #[.int .i64 1, .int .i64 2, .int .i64 3, .int .i64 10, .int .i64 0, .int .i64 2, .int .i64 2, .int .i64 10, .int .i64 0, .int .i64 2, .int .i64 3, .int .i64 11, .int .i64 2, .int .i64 0, .int .i64 0, .int .i64 0, .int .i64 (-1), .int .i64 0, .int .i64 0, .int .i64 0, .int .i64 0, .int .i64 3, .int .i64 0, .int .i64 0, .int .i64 0, .int .i64 0, .int .i64 4, .int .i64 0, .int .i64 0, .int .i64 0, .int .i64 0, .int .i64 (-1)] 34 (0, 0))) : Kn.Rds w g := by
  intro j hj
  have : j = 0 ∨ j = 1 ∨ j = 2 ∨ j = 3 ∨ j = 4 ∨ j = 5 ∨ j = 6 ∨ j = 7 := by omega
  rcases this with rfl | rfl | rfl | rfl | rfl | rfl | rfl | rfl <;> exact ⟨_, _, _, _, by rw [cellB h]; rfl, by rw [cellB h]; rfl, by rw [cellB h]; rfl, by rw [cellB h]; rfl, by kernel_rfl⟩
end Go.Proofs.Ytghelfbigbdkkaa
