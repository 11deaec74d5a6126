/- The document's Parse. -/
import Derived.Test.YtilaalfehnngcaaDoorFieldsO
namespace Go.Proofs.YtilaalfehnngcaaDoor
open Go.RowKit

theorem rparse_step {s : ByteArray} {f k : Nat} {acc : List Fld} (hn : noEnd s f k) (hf : f ≤ k) (hk : k + 1 < s.size) (h1 : s[k] = 13) (h2 : s[k + 1] = 10) :
    parseW (s.data.toList.drop f) acc = if acc.length = 64 then ([], 3) else if roneE ((s.data.toList.drop f).take (k - f)) = 0 then parseW (s.data.toList.drop (k + 2)) (acc ++ [oneF ((s.data.toList.drop f).take (k - f))]) else ([], roneE ((s.data.toList.drop f).take (k - f))) := by
  have hc := cut_line hn hf hk h1 h2
  rw [parseW_step acc (by rw [hc]), hc]
  exact parse_one acc _ _ fun _ => rfl
theorem rparse_last {s : ByteArray} {f k : Nat} {acc : List Fld} (hn : noEnd s f k) (hk : s.size ≤ k + 1) : parseW (s.data.toList.drop f) acc = if s.size ≤ f then (acc, 0) else ([], 4) := by
  obtain ⟨h1, h2⟩ := cut_last hn hk
  rw [parseW_end acc h1, h2]
  have hz := size_len s
  by_cases h : s.size ≤ f
  · rw [if_pos h, if_pos (List.drop_of_length_le (by omega))]
  · rw [if_neg h, if_neg (fun e => by have := congrArg List.length e; rw [List.length_drop, List.length_nil] at this; omega)]


end Go.Proofs.YtilaalfehnngcaaDoor
