/- The document's budget: what is asked for, and dropped. -/
import Derived.Test.YtfjdfdobeiblhaaBudT
namespace Go.Proofs.Ytfjdfdobeiblhaa
open Go.RowKit
/-- what stands when the list is another one -/
theorem drop_end {w w1 w2 : World} {rb n m : Nat} {v v1 v2 : Value} {l : List (It Int)} (hr : bk w rb #[.int .i64 n, .int .i64 m, v]) (h1 : w.grownBy w1 (Value.slice none 0 0).ownBlock) (hv1 : v1.ownBlock = (Value.slice none 0 0).ownBlock ∨ ∀ g, v1.ownBlock = some g → w.heap.size ≤ g)
    (h2 : w1.grownBy w2 v1.ownBlock) (hv2 : v2.ownBlock = v1.ownBlock ∨ ∀ g, v2.ownBlock = some g → w1.heap.size ≤ g) (ho : OL w2 v2 l) :
    bk w2 rb #[.int .i64 n, .int .i64 m, v] ∧ RB (w2.setCell ⟨rb, 2, none⟩ v2) rb (fun k => k = rb ∨ v2.ownBlock = some k) n m l ∧ Did (fun k => k = rb ∨ v.ownBlock = some k) (fun k => k = rb ∨ v2.ownBlock = some k) w (w2.setCell ⟨rb, 2, none⟩ v2) := by
  have hn1 : ∀ g, v1.ownBlock = some g → w.heap.size ≤ g := by
    rcases hv1 with e | h
    · intro g hg; rw [e] at hg; simp [Value.ownBlock] at hg
    · exact h
  have hn2 : ∀ g, v2.ownBlock = some g → w.heap.size ≤ g := by
    rcases hv2 with e | h
    · intro g hg; rw [e] at hg; exact hn1 g hg
    · exact fun g hg => Nat.le_trans h1.size (h g hg)
  have hk : ∀ k, k < w.heap.size → w2.heap[k]? = w.heap[k]? := fun k hk => (h2.block k (Nat.lt_of_lt_of_le hk h1.size) (fun e => by have := hn1 k e.symm; omega)).trans (h1.block k hk (by simp [Value.ownBlock]))
  have hb := hr.keep (hk rb hr.lt)
  have hne : v2.ownBlock ≠ some rb := fun e => by have h3 := hn2 rb e; have h4 := hr.lt; omega
  refine ⟨hb, ⟨v2, hb.set 2 v2, ho.keep (fun g hg => Below.heap_setCell _ _ _ _ (fun e => hne (by rw [hg, e]))), hne, rfl⟩, h2.os.trans h1.os, h2.tape.trans h1.tape, h2.output.trans h1.output, ?_, ?_, ?_⟩
  · rw [size_setCell]; exact Nat.le_trans h1.size h2.size
  · intro k hlt hx
    exact (Below.heap_setCell _ _ _ _ (fun e => hx (.inl e))).trans (hk k hlt)
  · rintro k (rfl | e)
    · exact .inl (.inl rfl)
    · exact .inr (hn2 k e)
section
variable {w : World} {rb n m : Nat} {X : Nat → Prop} {l : List (It Int)}
set_option maxRecDepth 100000 in
set_option maxHeartbeats 1000000 in
theorem rpeek_any (h : RB w rb X n m l) (hl : l.length ≤ 1000000) (k : List UInt8) :
    Calls Try.prog 31 #[.pointer (some ⟨rb, 0, none⟩), .string (bs k)] w fun e w' => e = .returned (.tuple #[.int .i64 (valK 0 (findK k l)), .bool (findK k l).isSome]) ∧ w = w' := by
  obtain ⟨v, hr, hv, -, -⟩ := h
  have HAT := Lib.hid (rat_any k hr hv hl)
  obtain ⟨A, c, rfl⟩ := hv.form
  have c2 := hr.cell 2 (.slice A l.length c) rfl
  by_cases hk : k ∈ keysK l
  · obtain ⟨xs, y, zs, e, hy, hx⟩ := splitK hk
    have hf : findK k l = some y := by rw [e, findK_mid hy hx]
    have ha : atK k l = (xs.length : Int) := by rw [e, atK_found hy hx]
    have hlt : xs.length < l.length := by rw [e]; simp
    obtain ⟨g, off, rfl, -, -, -, d2⟩ := hv.get xs.length hlt
    have hyy : l[xs.length] = y := by simp [e]
    rw [hyy] at d2
    rw [hf]
    rw [ha] at HAT
    have hji : (xs.length : Int) < (l.length : Int) := by omega
    have hj0 : ¬ (xs.length : Int) < 0 := by omega
    clear hr hv hk e hy hx hf ha hyy
    show Calls _ _ _ _ fun e w' => e = .returned (.tuple #[.int .i64 y.2.2, .bool true]) ∧ _
    generalize y.2.2 = val at *
    generalize xs.length = i at *
    go_enter Try.func31, Try.ntmps31
    go_wp2_with fail
    refine HAT.out.mono ?_
    rintro e wx ⟨rfl, rfl⟩
    go_wp2_with fail
    go_ret2
    exact ⟨rfl, rfl⟩
  · rw [findK_none hk]
    rw [atK_none hk] at HAT
    clear hr hv hk c2
    show Calls _ _ _ _ fun e w' => e = .returned (.tuple #[.int .i64 0, .bool false]) ∧ _
    go_enter Try.func31, Try.ntmps31
    go_wp2_with fail
    refine HAT.out.mono ?_
    rintro e wx ⟨rfl, rfl⟩
    go_wp2_with fail
    go_ret2
    exact ⟨rfl, rfl⟩
set_option maxRecDepth 100000 in
set_option maxHeartbeats 1000000 in
theorem rdrop_any (h : RB w rb X n m l) (hl : l.length ≤ 100000) (nd : (keysK l).Nodup) (k : List UInt8) :
    Calls Try.prog 32 #[.pointer (some ⟨rb, 0, none⟩), .string (bs k)] w fun e w' => e = .returned (.bool (hasK k l)) ∧ ∃ X', RB w' rb X' n m (dropK k l) ∧ Did X X' w w' := by
  have HH := Lib.hid h
  obtain ⟨v, hr, hv, hvb, rfl⟩ := h
  have HAT := Lib.hid (rat_any k hr hv (by omega))
  by_cases hk : k ∈ keysK l
  · obtain ⟨xs, y, zs, e, hy, hx⟩ := splitK hk
    have ha : atK k l = (xs.length : Int) := by rw [e, atK_found hy hx]
    have hd : dropK k l = xs ++ zs := by rw [e] at nd ⊢; exact dropK_mid hy nd
    have hlen : l.length = xs.length + 1 + zs.length := by rw [e]; simp; omega
    have hol : ∃ g off c, v = .slice (some ⟨g, off, none⟩) l.length c ∧ OLat w g off c l := by
      rcases hv with ⟨-, e2⟩ | h
      · exfalso; rw [e2] at hlen; simp only [List.length_nil] at hlen; omega
      · exact h
    obtain ⟨g, off, c, rfl, hat⟩ := hol
    have c2 := hr.cell 2 (.slice (some ⟨g, off, none⟩) l.length c) rfl
    have hle := hat.le
    have HT1 : Hid (∀ j u, (onCs xs)[j]? = some u → w.cell? ((⟨g, off, none⟩ : Addr).add j) = some u) := OLat.take (b := y :: zs) (by rw [← e]; exact hat)
    have HT2 : Hid (∀ w' : World, w'.heap[g]? = w.heap[g]? → ∀ j u, (onCs zs)[j]? = some u → w'.cell? ((⟨g, off + (xs.length + 1) * 3, none⟩ : Addr).add j) = some u) := by
      intro w' hw
      have h1 : OLat w' g off c ((xs ++ [y]) ++ zs) := by
        have : (xs ++ [y]) ++ zs = l := by rw [e]; simp
        rw [this]; exact hat.keep hw
      have h2 := h1.drop
      rw [List.length_append] at h2
      have h3 := OLat.take (a := zs) (b := []) (by rw [List.append_nil]; exact h2)
      exact h3
    have HLX : Hid (xs.length ≤ 100000 ∧ zs.length ≤ 100000) := ⟨by omega, by omega⟩
    have hi0 : ¬ (xs.length : Int) < 0 := by omega
    have hi1 : (xs.length : Int) ≤ (c : Int) := by omega
    have hi2 : (xs.length : Int) + 1 ≤ (l.length : Int) := by omega
    have hi3 : (l.length : Int) ≤ (c : Int) := by omega
    have hw : IntKind.i64.wrap ((xs.length : Int) + 1) = (xs.length : Int) + 1 := by rw [IntKind.wrap_i64]; omega
    have HR := Lib.hid hr; have HAt := Lib.hid hat; have HVB := Lib.hid hvb; have HLN := Lib.hid hlen
    rw [hasK_iff.2 hk, hd]
    rw [ha] at HAT
    clear hk e hy hx ha hd nd hr hv hat hvb hl hlen HH
    generalize hil : xs.length = i at *
    have HIL := Lib.hid hil; clear hil
    have hsub : l.length - (i + 1) = zs.length := by have := HLN.out; omega
    by_cases hc : c = i + 1
    · subst hc
      have HT3 : Hid (∀ w' : World, w'.heap[g]? = w.heap[g]? → ∀ j u, (onCs zs)[j]? = some u → w'.cell? ((⟨g, off, none⟩ : Addr).add j) = some u) := by
        intro w' _ j u hj
        have h1 := (List.getElem?_eq_some_iff.1 hj).1
        rw [onCs_len] at h1
        have h2 := HLN.out
        omega
      clear HT2 hi3
      go_enter Try.func32, Try.ntmps32
      go_wp2_with fail
      refine HAT.out.mono ?_
      rintro e wx ⟨rfl, rfl⟩
      go_wp2_with (first
        | (at_builtin; refine wpList_appO (w := w) rfl (.tmp 12) (.tmp 18) rfl (.slice none 0 0) (.slice (some ⟨g, off, none⟩) i (i + 1)) [] xs rfl (OL_nil _) rfl (by rw [HIL.out]; exact Src.ofSlice w Try.underlying27 ⟨g, off, none⟩ i (i + 1) (onCs xs) (by rw [onCs_len, HIL.out]) HT1.out (onCs_one xs)) (by have := HLX.out; have := HIL.out; simp; omega) ?_; intro v1 w1 HO1 HG1 HV1; have HO2 : Hid (OL w1 v1 xs) := (by have := HO1.out; rwa [List.nil_append] at this); have c3 := (HR.out.keep (HG1.out.block rb HR.out.lt (by simp [Value.ownBlock]))).cell 2 (.slice (some ⟨g, off, none⟩) l.length (i + 1)) rfl; clear HO1 c2)
        | (at_builtin; refine wpList_appO (w := w1) rfl (.tmp 21) (.tmp 28) rfl v1 (.slice (some ⟨g, off, none⟩) zs.length (0)) xs zs rfl HO2.out rfl (Src.ofSlice w1 Try.underlying27 ⟨g, off, none⟩ zs.length (0) (onCs zs) (onCs_len zs) (HT3.out w1 (HG1.out.block g HAt.out.lt (by simp [Value.ownBlock]))) (onCs_one zs)) (by have := HLX.out; have := HIL.out; omega) ?_; intro v2 w2 HO3 HG2 HV2; have HEND := Lib.hid (drop_end HR.out HG1.out HV1.out HG2.out HV2.out HO3.out); obtain ⟨A2, n2, k2, rfl⟩ : ∃ A2 n2 k2, v2 = .slice A2 n2 k2 := (by obtain ⟨A, c, e⟩ := HO3.out.form; exact ⟨A, _, c, e⟩); have c4 := HEND.out.1.cell 2 (.slice (some ⟨g, off, none⟩) l.length (i + 1)) rfl; have f4 := HEND.out.1.free 2; clear c3))
      go_ret
      exact ⟨rfl, _, HEND.out.2⟩
    · have HT3 : Hid (∀ w' : World, w'.heap[g]? = w.heap[g]? → ∀ j u, (onCs zs)[j]? = some u → w'.cell? ((⟨g, off + (i + 1) * 3, none⟩ : Addr).add j) = some u) := HT2.out
      clear HT2
      go_enter Try.func32, Try.ntmps32
      go_wp2_with fail
      refine HAT.out.mono ?_
      rintro e wx ⟨rfl, rfl⟩
      go_wp2_with (first
        | (at_builtin; refine wpList_appO (w := w) rfl (.tmp 12) (.tmp 18) rfl (.slice none 0 0) (.slice (some ⟨g, off, none⟩) i (c)) [] xs rfl (OL_nil _) rfl (by rw [HIL.out]; exact Src.ofSlice w Try.underlying27 ⟨g, off, none⟩ i (c) (onCs xs) (by rw [onCs_len, HIL.out]) HT1.out (onCs_one xs)) (by have := HLX.out; have := HIL.out; simp; omega) ?_; intro v1 w1 HO1 HG1 HV1; have HO2 : Hid (OL w1 v1 xs) := (by have := HO1.out; rwa [List.nil_append] at this); have c3 := (HR.out.keep (HG1.out.block rb HR.out.lt (by simp [Value.ownBlock]))).cell 2 (.slice (some ⟨g, off, none⟩) l.length (c)) rfl; clear HO1 c2)
        | (at_builtin; refine wpList_appO (w := w1) rfl (.tmp 21) (.tmp 28) rfl v1 (.slice (some ⟨g, off + (i + 1) * 3, none⟩) zs.length (c - (i + 1))) xs zs rfl HO2.out rfl (Src.ofSlice w1 Try.underlying27 ⟨g, off + (i + 1) * 3, none⟩ zs.length (c - (i + 1)) (onCs zs) (onCs_len zs) (HT3.out w1 (HG1.out.block g HAt.out.lt (by simp [Value.ownBlock]))) (onCs_one zs)) (by have := HLX.out; have := HIL.out; omega) ?_; intro v2 w2 HO3 HG2 HV2; have HEND := Lib.hid (drop_end HR.out HG1.out HV1.out HG2.out HV2.out HO3.out); obtain ⟨A2, n2, k2, rfl⟩ : ∃ A2 n2 k2, v2 = .slice A2 n2 k2 := (by obtain ⟨A, c, e⟩ := HO3.out.form; exact ⟨A, _, c, e⟩); have c4 := HEND.out.1.cell 2 (.slice (some ⟨g, off, none⟩) l.length (c)) rfl; have f4 := HEND.out.1.free 2; clear c3))
      go_ret
      exact ⟨rfl, _, HEND.out.2⟩
  · rw [hasK_false.2 hk, dropK_none hk]
    rw [atK_none hk] at HAT
    clear hr hv hk hvb
    go_enter Try.func32, Try.ntmps32
    go_wp2_with fail
    refine HAT.out.mono ?_
    rintro e wx ⟨rfl, rfl⟩
    go_wp2_with fail
    go_ret
    exact ⟨rfl, _, HH.out, Did.refl _ _⟩
end
end Go.Proofs.Ytfjdfdobeiblhaa
