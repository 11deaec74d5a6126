/- What the walks ask of Go's library: its table of powers of ten stands as it was laid, two of its errors hold something; from what a row lists to that; numbers as texts and back. -/
import Derived.Test.YtekaiafhnnpkgaaGreatDoorBytes
import Derived.Test.YtekaiafhnnpkgaaGreatDoorSen
import Derived.Test.YtekaiafhnnpkgaaGreatDoorShelf
import Derived.Test.YtekaiafhnnpkgaaGreatDoorLine0
import Derived.LaidSub
import Derived.MakeChecks
import Derived.Lib.AppendIntMem
import Derived.Lib.AtoiErrMem
import Derived.Stop.LaidErr
namespace Go.Proofs.YtekaiafhnnpkgaaGreatDoor
open Go.RowKit
def Env (w : World) : Prop := Lib.TabIs Tryz.prog w "internal/strconv.uint64pow10" .u64 Lib.pow10Tab ∧ Sen w "strconv.ErrSyntax" ∧ Sen w "strconv.ErrRange"
theorem gTab : Tryz.prog.globalNamed "internal/strconv.uint64pow10" = some 2 := by kernel_rfl
theorem gTabType : (Tryz.prog.globals[2]?).map (·.type) = some 116 := by kernel_rfl
theorem cellsTab : Tryz.prog.cellsOf 116 = 20 := by kernel_rfl
theorem cellsU64 : Tryz.prog.cellsOf 87 = 1 := by kernel_rfl
theorem env_of {W : World} {l : List (String × DataW Unit)} (h : laidMetH Tryz.prog l W)
    (hf : (l.filter (fun x => x.1 == "internal/strconv.uint64pow10"), l.filter (fun x => x.1 == "strconv.ErrSyntax"), l.filter (fun x => x.1 == "strconv.ErrRange")) =
      ([("internal/strconv.uint64pow10", Lib.tabData .u64 Lib.pow10Tab)], [("strconv.ErrSyntax", senData [105, 110, 118, 97, 108, 105, 100, 32, 115, 121, 110, 116, 97, 120])], [("strconv.ErrRange", senData [118, 97, 108, 117, 101, 32, 111, 117, 116, 32, 111, 102, 32, 114, 97, 110, 103, 101])])) : Env W := by
  obtain ⟨f1, f23⟩ := Prod.mk.inj hf
  obtain ⟨f2, f3⟩ := Prod.mk.inj f23
  have h1 := laidMetH.filter (fun x => x.1 == "internal/strconv.uint64pow10") h
  rw [f1, MakeChecks.laidMetH_plain _ _ _ (by rfl)] at h1
  have h2 := laidMetH.filter (fun x => x.1 == "strconv.ErrSyntax") h
  rw [f2, MakeChecks.laidMetH_plain _ _ _ (by rfl)] at h2
  have h3 := laidMetH.filter (fun x => x.1 == "strconv.ErrRange") h
  rw [f3, MakeChecks.laidMetH_plain _ _ _ (by rfl)] at h3
  unfold senData at h2 h3
  obtain ⟨a2, s2, v2, _, _, _⟩ := laid_sentinel h2 gES gESType Tryz.underlying70 rowES Tryz.underlying136 Tryz.underlying138 rfl rfl Tryz.underlying9 cellsES cellsStr
  obtain ⟨a3, s3, v3, _, _, _⟩ := laid_sentinel h3 gER gERType Tryz.underlying70 rowES Tryz.underlying136 Tryz.underlying138 rfl rfl Tryz.underlying9 cellsES cellsStr
  exact ⟨Lib.tabIs_of_head (rest := []) gTab gTabType Tryz.underlying116 Tryz.underlying87 cellsU64 cellsTab h1, ⟨_, _, v2⟩, ⟨_, _, v3⟩⟩

theorem Env.keep {w w' : World} (h : Env w) (hb : ∀ g, g < w.heap.size → g ≤ 64 → w'.heap[g]? = w.heap[g]?) : Env w' := by
  obtain ⟨h1, ⟨t2, p2, h2⟩, ⟨t3, p3, h3⟩⟩ := h
  refine ⟨?_, ⟨t2, p2, var_keep h2 fun g hg hl => hb g hl ?_⟩, ⟨t3, p3, var_keep h3 fun g hg hl => hb g hl ?_⟩⟩
  · unfold Lib.TabIs at *
    exact var_keep h1 fun g hg hl => hb g hl (by rw [gTab] at hg; cases hg; decide)
  · rw [gES] at hg; cases hg; decide
  · rw [gER] at hg; cases hg; decide
theorem Env.below {B : Nat} {w w' : World} (h : Env w) (hb : Below B w w') (hB : w.heap.size ≤ B) : Env w' := h.keep fun g hg _ => hb.block g (by omega)
theorem Env.alloc {w : World} (h : Env w) (o : Obj) : Env (w.alloc o) := h.below ((Below.refl w.heap.size _).alloc (Nat.le_refl _) _) (Nat.le_refl _)

/-- 'strconv.Atoi': the number, and some error or none. -/
theorem atoi_any (s : ByteArray) (w : World) (hlim : s.size ≤ 281474976710656) (ht : Env w) :
    Calls Tryz.prog 88 #[.string s] w fun e w' => ∃ v, e = .returned (.tuple #[.int .i64 (atoiV s.data.toList), v]) ∧ Below w.heap.size w w' := by
  obtain ⟨-, ⟨t2, p2, h2⟩, ⟨t3, p3, h3⟩⟩ := ht
  by_cases hr : Lib.atoiAll s.data.toList = .range
  · refine (Tryz.strconv_Atoi_range_var s hlim hr t3 p3 w h3).mono ?_
    rintro e w' ⟨N, rfl, -, -, hb⟩
    exact ⟨_, by unfold atoiV; rw [hr], hb⟩
  · by_cases hk : ∃ v, Lib.atoiAll s.data.toList = .ok v
    · obtain ⟨v, hv⟩ := hk
      refine (Tryz.strconv_Atoi_ok s (by omega) v hv w).mono ?_
      rintro e w' ⟨rfl, hw⟩
      refine ⟨_, by unfold atoiV; rw [hv], ?_⟩
      rcases hw with rfl | ⟨t, rfl⟩
      · exact Below.refl _ _
      · exact Lib.bytesWorld_below _ _ _
    · refine (Tryz.strconv_Atoi_bad_var s hlim (fun v hv => hk ⟨v, hv⟩) hr t2 p2 w h2).mono ?_
      rintro e w' ⟨N, rfl, -, -, hb⟩
      have hz : atoiV s.data.toList = 0 := by
        unfold atoiV
        split
        · rename_i v hv; exact absurd ⟨v, hv⟩ hk
        · rename_i hv; exact absurd hv hr
        · rfl
      exact ⟨_, by rw [hz], hb⟩
end Go.Proofs.YtekaiafhnnpkgaaGreatDoor
