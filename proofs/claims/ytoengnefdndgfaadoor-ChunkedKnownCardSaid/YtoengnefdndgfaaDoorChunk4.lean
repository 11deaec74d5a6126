/- What is put in chunks is read as the body. Nothing of the program is read here. -/
import Derived.Test.YtoengnefdndgfaaDoorChunk2
import Derived.Test.YtoengnefdndgfaaDoorChunkM
namespace Go.Proofs.YtoengnefdndgfaaDoor
theorem digC_all : ∀ n : Fin 16, hexB (digC n.val) = true ∧ hexD (digC n.val) = n.val ∧ digC n.val ≠ 13 := by decide
theorem hexL_hex (n : Nat) : (hexL n).all hexB = true := by
  induction n using Nat.strongRecOn with
  | _ n ih =>
    by_cases h : n < 16
    · rw [hexL_small h]; simp [(digC_all ⟨n, h⟩).1]
    · rw [hexL_step h, List.all_append, ih (n / 16) (by omega)]
      have := (digC_all ⟨n % 16, Nat.mod_lt _ (by decide)⟩).1
      simp [this]
theorem hexL_val (n : Nat) : hexN (hexL n) = n := by
  induction n using Nat.strongRecOn with
  | _ n ih =>
    by_cases h : n < 16
    · rw [hexL_small h]
      have := (digC_all ⟨n, h⟩).2.1
      simp only at this
      show 16 * 0 + hexD (digC n) = n
      omega
    · rw [hexL_step h, hexN_snoc, ih (n / 16) (by omega), (digC_all ⟨n % 16, Nat.mod_lt _ (by decide)⟩).2.1]
      show 16 * (n / 16) + n % 16 = n
      omega
theorem hexL_pos (n : Nat) : 0 < (hexL n).length := by
  by_cases h : n < 16
  · rw [hexL_small h]; simp
  · rw [hexL_step h]; simp
theorem no13 {l : List UInt8} (h : l.all hexB = true) : ∀ c ∈ l, c ≠ 13 := fun c hc e => by
  have := List.all_eq_true.1 h c hc
  rw [e] at this
  exact absurd this (by decide)
theorem size_hex {n : Nat} (h : n < 4294967296) : sizeN (hexL n) = some n := by
  have h1 := hexL_len8 h
  have h2 := hexL_pos n
  rw [size_all (hexL_hex n), if_neg (by omega), hexL_val]
theorem find_line {a r : List UInt8} {most : Nat} (h : ∀ c ∈ a, c ≠ 13) (hm : a.length + 2 ≤ most) : findL (a ++ 13 :: 10 :: r) [13, 10] most = (a.length, 0) := by
  refine find_of (by simp) hm ((occ_two _ _ _ _).2 ⟨by simp, by rw [List.getElem?_append_right (by omega)]; simp⟩) fun j hj => ?_
  cases ho : Lib.occAt (a ++ 13 :: 10 :: r) [13, 10] j
  · rfl
  · have h1 := ((occ_two _ _ _ _).1 ho).1
    rw [List.getElem?_append_left hj, List.getElem?_eq_getElem hj] at h1
    exact absurd (Option.some.inj h1) (h _ (List.getElem_mem hj))
theorem head_hex {n room : Nat} (r : List UInt8) (hn : n < 4294967296) : headL (hexL n ++ 13 :: 10 :: r) room = if room < n then (0, 0, 3) else (n, (hexL n).length + 2, 0) := by
  have h1 := hexL_len8 hn
  unfold headL
  rw [find_line (no13 (hexL_hex n)) (by omega)]
  simp only [if_true]
  rw [List.take_append_of_le_length (Nat.le_refl _), List.take_length, size_hex hn]
theorem chunk_put (c r : List UInt8) : chunkL (c ++ 13 :: 10 :: r) c.length = (c, c.length + 2, 0) := by
  unfold chunkL
  rw [if_neg (by simp), List.drop_append_of_le_length (Nat.le_refl _), List.drop_length, List.nil_append, List.take_append_of_le_length (Nat.le_refl _), List.take_length]
  have : endE (13 :: 10 :: r) = 0 := by simp [endE, Lib.hasPrefix, List.isPrefixOf]
  rw [if_pos this]
theorem last_put (more : List UInt8) (room : Nat) : decL (lastT ++ more) room = ([], 5, [], 0) := by
  have h1 : headL (lastT ++ more) room = (0, 3, 0) := by
    have := head_hex (n := 0) (room := room) (13 :: 10 :: more) (by decide)
    rw [if_neg (by omega), hexL_small (by decide)] at this
    exact this
  have h2 : findL (13 :: 10 :: 13 :: 10 :: more) [13, 10, 13, 10] 8194 = (0, 0) := find_of (by simp) (by decide) (by simp [Lib.occAt, List.isPrefixOf]) (fun j hj => absurd hj (by omega))
  exact ex_last h1 (show List.drop 3 (lastT ++ more) = 13 :: 10 :: more from rfl) (lasts_zero h2)
theorem back_tail {l : List Int} (hl : okS l) (more : List UInt8) : ∀ (f k : Nat) (b : List UInt8) (room : Nat), b.length ≤ f → b.length < 4294967296 →
    (b.length ≤ room → decL (tailE l k b ++ more) room = (b, (tailE l k b).length, [], 0)) ∧ (room < b.length → decL (tailE l k b ++ more) room = bad 3) := by
  intro f
  induction f with
  | zero =>
    intro k b room hf hb
    have : b = [] := List.eq_nil_of_length_eq_zero (by omega)
    subst this
    exact ⟨fun _ => last_put more room, fun h => absurd h (by simp)⟩
  | succ f ih =>
    intro k b room hf hb
    by_cases h0 : b = []
    · subst h0
      exact ⟨fun _ => last_put more room, fun h => absurd h (by simp)⟩
    · have hpos := List.length_pos_iff.2 h0
      have hs := sz_pos hl k
      obtain ⟨c, hc⟩ : ∃ c, c = b.take (szAt l k) := ⟨_, rfl⟩
      obtain ⟨d, hd⟩ : ∃ d, d = b.drop (szAt l k) := ⟨_, rfl⟩
      have hcd : c ++ d = b := by rw [hc, hd, List.take_append_drop]
      have hst := tailE_step hl k h0
      rw [← hc, ← hd] at hst
      have hcl : 0 < c.length := by rw [hc, List.length_take]; omega
      have hbl : b.length = c.length + d.length := by rw [← hcd, List.length_append]
      have hX : tailE l k b ++ more = hexL c.length ++ 13 :: 10 :: (c ++ 13 :: 10 :: (tailE l (k + 1) d ++ more)) := by rw [hst]; unfold chunkT; simp
      have hlen : (tailE l k b).length = (hexL c.length).length + 2 + (c.length + 2) + (tailE l (k + 1) d).length := by
        rw [hst]; unfold chunkT; simp only [List.length_append, List.length_cons, List.length_nil]; omega
      have hh := head_hex (n := c.length) (room := room) (c ++ 13 :: 10 :: (tailE l (k + 1) d ++ more)) (by omega)
      rw [← hX] at hh
      obtain ⟨i1, i2⟩ := ih (k + 1) d (room - c.length) (by omega) (by omega)
      have hdrop : List.drop ((hexL c.length).length + 2) (tailE l k b ++ more) = c ++ 13 :: 10 :: (tailE l (k + 1) d ++ more) := by
        rw [hX, show hexL c.length ++ 13 :: 10 :: (c ++ 13 :: 10 :: (tailE l (k + 1) d ++ more)) = (hexL c.length ++ [13, 10]) ++ (c ++ 13 :: 10 :: (tailE l (k + 1) d ++ more)) from by simp]
        rw [List.drop_append_of_le_length (by simp), List.drop_of_length_le (by simp), List.nil_append]
      have hdrop2 : List.drop (c.length + 2) (c ++ 13 :: 10 :: (tailE l (k + 1) d ++ more)) = tailE l (k + 1) d ++ more := by
        rw [show c ++ 13 :: 10 :: (tailE l (k + 1) d ++ more) = (c ++ [13, 10]) ++ (tailE l (k + 1) d ++ more) from by simp]
        rw [List.drop_append_of_le_length (by simp), List.drop_of_length_le (by simp), List.nil_append]
      by_cases hr : room < c.length
      · rw [if_pos hr] at hh
        exact ⟨fun h => by omega, fun _ => ex_bad hh (by decide)⟩
      · rw [if_neg hr] at hh
        have he := ex_chunk hh (by omega) hdrop (chunk_put c _)
        rw [hdrop2] at he
        refine ⟨fun h => ?_, fun h => ?_⟩
        · rw [he, i1 (by omega), hlen]
          unfold behind
          simp [hcd]
        · rw [he, i2 (by omega), behind_bad (by decide)]
theorem back_enc (body : List UInt8) (sizes : List Int) (more : List UInt8) (room : Nat) (hb : body.length < 4294967296) :
    (body.length ≤ room → decL (encodeL body sizes ++ more) room = (body, (encodeL body sizes).length, [], 0)) ∧ (room < body.length → decL (encodeL body sizes ++ more) room = bad 3) := by
  by_cases h0 : body = []
  · subst h0
    exact ⟨fun _ => last_put more room, fun h => absurd h (by simp)⟩
  · have hpos := List.length_pos_iff.2 h0
    exact back_tail (useL_ok sizes (by omega)) more body.length 0 body room (Nat.le_refl _) hb
theorem room_len {n : Nat} (h : n ≤ 262144) : roomOf (n : Int) = n := by unfold roomOf; omega
theorem room_less {n : Nat} (h : n ≤ 262144) (h0 : 0 < n) : roomOf ((n : Int) - 1) = n - 1 := by unfold roomOf; omega
theorem tail_len {l : List Int} (hl : okS l) : ∀ (f k : Nat) (b : List UInt8), b.length ≤ f → b.length < 4294967296 → (tailE l k b).length ≤ 13 * b.length + 5 := by
  intro f
  induction f with
  | zero =>
    intro k b hf hb
    have : b = [] := List.eq_nil_of_length_eq_zero (by omega)
    subst this
    rw [tailE_nil]; simp [lastT]
  | succ f ih =>
    intro k b hf hb
    by_cases h0 : b = []
    · subst h0; rw [tailE_nil]; simp [lastT]
    · have hpos := List.length_pos_iff.2 h0
      have hs := sz_pos hl k
      rw [tailE_step hl k h0, List.length_append]
      have h1 := chunkT_len (c := b.take (szAt l k)) (by rw [List.length_take]; omega)
      have h2 := ih (k + 1) (b.drop (szAt l k)) (by rw [List.length_drop]; omega) (by rw [List.length_drop]; omega)
      rw [List.length_take] at h1
      rw [List.length_drop] at h2
      omega
theorem enc_len (body : List UInt8) (sizes : List Int) (hb : body.length < 4294967296) : (encodeL body sizes).length ≤ 13 * body.length + 5 := by
  by_cases h0 : body = []
  · subst h0; simp [encodeL, tailE_nil, lastT]
  · have hpos := List.length_pos_iff.2 h0
    exact tail_len (useL_ok sizes (by omega)) body.length 0 body (Nat.le_refl _) hb
end Go.Proofs.YtoengnefdndgfaaDoor
