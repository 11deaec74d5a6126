/- The size line at a place, the bytes of a chunk, the last lines: the decoder's steps. -/
import Derived.Test.YtoengnefdndgfaaDoorChunkC
import Derived.Test.YtoengnefdndgfaaDoorFieldsU
import Derived.OwnWalk
namespace Go.Proofs.YtoengnefdndgfaaDoor
open Go.RowKit

theorem ret_three {a b c d e f : Value} (h1 : a = d) (h2 : b = e) (h3 : c = f) : Ending.returned (.tuple #[a, b, c]) = .returned (.tuple #[d, e, f]) := by rw [h1, h2, h3]
/-- the place behind, or 0 -/
def nextI (i u : Nat) (e : Int) : Int := if e = 0 then (i : Int) + u else 0
theorem next_bad {i u : Nat} {e : Int} (h : e ≠ 0) : 0 = nextI i u e := by unfold nextI; rw [if_neg h]
theorem find_err {s mark : List UInt8} {most : Nat} (h : (findL s mark most).2 ≠ 0) : (findL s mark most).2 = 3 ∨ (findL s mark most).2 = 6 := by
  rcases find_cases s mark most with h1 | ⟨h1, _⟩ | ⟨h1, _⟩
  · exact absurd h1 h
  · exact .inl (by rw [h1])
  · exact .inr (by rw [h1])

set_option maxHeartbeats 2000000 in
set_option maxRecDepth 100000 in
theorem takeSize_any (s : List UInt8) (i room : Nat) (w : World) (he : EnvC w) (hs : s.length ≤ 1048576) (ha : i ≤ s.length) :
    Calls Tryd.prog 18 #[.string (bs s), .int .i64 i, .int .i64 room] w fun e w' =>
      e = .returned (.tuple #[.int .i64 (headL (s.drop i) room).1, .int .i64 (nextI i (headL (s.drop i) room).2.1 (headL (s.drop i) room).2.2), .int .i64 (headL (s.drop i) room).2.2]) ∧ Below w.heap.size w w' := by
  have hf := find_any (s.drop i) [13, 10] 2050 w he.1 (by decide) (by rw [List.length_drop]; omega)
  rw [show bs [13, 10] = ⟨#[13, 10]⟩ from rfl] at hf
  have hH : headL (s.drop i) room = if (findL (s.drop i) [13, 10] 2050).2 = 0 then
    (match sizeN ((s.drop i).take (findL (s.drop i) [13, 10] 2050).1) with
    | none => (0, 0, 4)
    | some n => if room < n then (0, 0, 3) else (n, (findL (s.drop i) [13, 10] 2050).1 + 2, 0))
    else (0, 0, (findL (s.drop i) [13, 10] 2050).2) := rfl
  have hhit := fun h => find_hit (s := s.drop i) (mark := [13, 10]) (most := 2050) (by simp) h
  have hso := fun (n : Nat) (w' : World) (hb : EnvC w') => sizeOf_any ((s.drop i).take n) w' hb (by rw [List.length_take, List.length_drop]; omega)
  have hlt := fun (n m : Nat) (h : sizeN ((s.drop i).take n) = some m) => sizeN_lt h
  obtain ⟨S, hSe, hSl, hSz⟩ := text_of s
  rw [← hSe]
  have hex1 : S.extract i S.size = bs (s.drop i) := ext_from hSl i
  rw [← hex1] at hf
  have hex2 : ∀ n : Nat, S.extract i (i + n) = bs ((s.drop i).take n) := fun n => by rw [ext_mid hSl, Nat.add_sub_cancel_left]
  have hdl : (s.drop i).length = S.size - i := by rw [List.length_drop, hSz]
  rw [hdl] at hhit
  rw [← hSz] at hs ha
  have HE := Lib.hid he; clear he
  generalize headL (s.drop i) room = H at hH ⊢
  obtain ⟨h1, h2, h3⟩ := H
  have herr := fun h => find_err (s := s.drop i) (mark := [13, 10]) (most := 2050) h
  generalize findL (s.drop i) [13, 10] 2050 = F at *
  obtain ⟨n, e⟩ := F
  simp only at hf hH hhit herr ⊢
  have HF := Lib.hid hf; clear hf
  clear hSe hSl hSz hex1 hdl
  by_cases hz : e = 0
  · subst hz
    obtain ⟨k1, k2, -, -⟩ := hhit rfl
    simp only [List.length_cons, List.length_nil] at k1 k2
    rw [if_pos rfl] at hH
    have hso2 := hso n w HE.out
    rw [← hex2 n] at hso2
    have hlt2 := hlt n
    generalize sizeN ((s.drop i).take n) = N at hso2 hlt2 hH
    have HSO := Lib.hid hso2; clear hso2
    clear hso hex2 hhit herr hlt
    have hin : i + n ≤ S.size := by omega
    cases N with
    | none =>
      obtain ⟨rfl, h23⟩ := Prod.mk.inj hH
      obtain ⟨rfl, rfl⟩ := Prod.mk.inj h23
      clear hH h23 hlt2
      simp only [sizeV] at HSO
      go_enter Tryd.func18, Tryd.ntmps18
      go_wp2_with (go_at_call 31; refine HF.out.mono ?_; rintro e w1 ⟨rfl, rfl⟩)
      refine HSO.out.mono ?_; rintro e w1 ⟨rfl, hb1⟩
      have HB1 := Lib.hid hb1; clear hb1
      go_wp2_with fail
      go_ret3
      exact ⟨rfl, HB1.out⟩
    | some m =>
      have hm := hlt2 m rfl
      simp only at hH
      simp only [sizeV] at HSO
      clear hlt2
      by_cases hrm : room < m
      · rw [if_pos hrm] at hH
        obtain ⟨rfl, h23⟩ := Prod.mk.inj hH
        obtain ⟨rfl, rfl⟩ := Prod.mk.inj h23
        clear hH h23
        go_enter Tryd.func18, Tryd.ntmps18
        go_wp2_with (go_at_call 31; refine HF.out.mono ?_; rintro e w1 ⟨rfl, rfl⟩)
        refine HSO.out.mono ?_; rintro e w1 ⟨rfl, hb1⟩
        have HB1 := Lib.hid hb1; clear hb1
        go_wp2_with fail
        go_ret3
        exact ⟨rfl, HB1.out⟩
      · rw [if_neg hrm] at hH
        obtain ⟨rfl, h23⟩ := Prod.mk.inj hH
        obtain ⟨rfl, rfl⟩ := Prod.mk.inj h23
        clear hH h23
        have hrm2 : h1 ≤ room := by omega
        go_enter Tryd.func18, Tryd.ntmps18
        go_wp2_with (go_at_call 31; refine HF.out.mono ?_; rintro e w1 ⟨rfl, rfl⟩)
        refine HSO.out.mono ?_; rintro e w1 ⟨rfl, hb1⟩
        have HB1 := Lib.hid hb1; clear hb1
        go_wp2_with fail
        go_ret3
        exact ⟨ret_three rfl (i64_eq (by unfold nextI; rw [if_pos rfl]; push_cast; omega)) rfl, HB1.out⟩
  · rw [if_neg hz] at hH
    obtain ⟨rfl, h23⟩ := Prod.mk.inj hH
    obtain ⟨rfl, rfl⟩ := Prod.mk.inj h23
    have hne : (h3 != 0) = true := by simpa using hz
    have HZ := Lib.hid hz
    clear hH h23 hhit hso hlt hex2 hz herr
    go_enter Tryd.func18, Tryd.ntmps18
    go_wp2_with (go_at_call 31; refine HF.out.mono ?_; rintro e w1 ⟨rfl, rfl⟩)
    go_ret3
    exact ⟨ret_three rfl (i64_eq (next_bad HZ.out)) rfl, Below.refl _ _⟩

set_option maxHeartbeats 2000000 in
set_option maxRecDepth 100000 in
theorem takeChunk_any (s : List UInt8) (i n : Nat) (w : World) (hs : s.length ≤ 1048576) (ha : i ≤ s.length) (hn : n ≤ 4294967296) :
    Calls Tryd.prog 19 #[.string (bs s), .int .i64 i, .int .i64 n] w fun e w' =>
      e = .returned (.tuple #[.string (bs (chunkL (s.drop i) n).1), .int .i64 (nextI i (chunkL (s.drop i) n).2.1 (chunkL (s.drop i) n).2.2), .int .i64 (chunkL (s.drop i) n).2.2]) ∧ w = w' := by
  have hp1 := fun w' : World => prefix_any (s.drop (i + n)) [13, 10] w'
  have hp2 := fun w' : World => prefix_any [13, 10] (s.drop (i + n)) w'
  rw [show bs [13, 10] = ⟨#[13, 10]⟩ from rfl] at hp1 hp2
  have hC : chunkL (s.drop i) n = if (s.drop i).length < n then ([], 0, 6) else if endE (s.drop (i + n)) = 0 then ((s.drop i).take n, n + 2, 0) else ([], 0, endE (s.drop (i + n))) := by
    unfold chunkL; rw [List.drop_drop]
  have hE : endE (s.drop (i + n)) = if Lib.hasPrefix (s.drop (i + n)) [13, 10] then 0 else if Lib.hasPrefix [13, 10] (s.drop (i + n)) then 6 else 4 := rfl
  obtain ⟨S, hSe, hSl, hSz⟩ := text_of s
  rw [← hSe]
  have hex1 : S.extract (i + n) S.size = bs (s.drop (i + n)) := ext_from hSl (i + n)
  have hex2 : S.extract i (i + n) = bs ((s.drop i).take n) := by rw [ext_mid hSl, Nat.add_sub_cancel_left]
  rw [← hex1] at hp1 hp2
  rw [List.length_drop, ← hSz] at hC
  rw [← hSz] at hs ha
  generalize chunkL (s.drop i) n = C at hC ⊢
  obtain ⟨c1, c2, c3⟩ := C
  generalize endE (s.drop (i + n)) = E at hC hE
  generalize Lib.hasPrefix (s.drop (i + n)) [13, 10] = P at *
  generalize Lib.hasPrefix [13, 10] (s.drop (i + n)) = Q at *
  generalize (s.drop i).take n = T at *
  have HP1 := Lib.hid hp1; have HP2 := Lib.hid hp2; have HX := Lib.hid hex2
  clear hp1 hp2 hSe hSl hSz hex1 hex2
  by_cases hlen : S.size - i < n
  · rw [if_pos hlen] at hC
    obtain ⟨rfl, h23⟩ := Prod.mk.inj hC
    obtain ⟨rfl, rfl⟩ := Prod.mk.inj h23
    clear hC h23 hE
    have hl2 : (S.size : Int) - i < n := by omega
    go_enter Tryd.func19, Tryd.ntmps19
    go_wp2_with fail
    go_ret3
    exact ⟨rfl, rfl⟩
  · rw [if_neg hlen] at hC
    have hl2 : ¬ (S.size : Int) - i < n := by omega
    have hin : i + n ≤ S.size := by omega
    clear hlen
    cases P
    · cases Q
      · have hE4 : E = 4 := hE
        rw [hE4, if_neg (by decide)] at hC
        obtain ⟨rfl, h23⟩ := Prod.mk.inj hC
        obtain ⟨rfl, rfl⟩ := Prod.mk.inj h23
        clear hC h23 hE hE4
        go_enter Tryd.func19, Tryd.ntmps19
        go_wp2_with fail
        refine (HP1.out _).mono ?_; rintro e w1 ⟨rfl, rfl⟩
        go_wp2_with fail
        refine (HP2.out _).mono ?_; rintro e w1 ⟨rfl, rfl⟩
        go_wp2_with fail
        go_ret3
        exact ⟨rfl, rfl⟩
      · have hE6 : E = 6 := hE
        rw [hE6, if_neg (by decide)] at hC
        obtain ⟨rfl, h23⟩ := Prod.mk.inj hC
        obtain ⟨rfl, rfl⟩ := Prod.mk.inj h23
        clear hC h23 hE hE6
        go_enter Tryd.func19, Tryd.ntmps19
        go_wp2_with fail
        refine (HP1.out _).mono ?_; rintro e w1 ⟨rfl, rfl⟩
        go_wp2_with fail
        refine (HP2.out _).mono ?_; rintro e w1 ⟨rfl, rfl⟩
        go_wp2_with fail
        go_ret3
        exact ⟨rfl, rfl⟩
    · have hE0 : E = 0 := hE
      rw [hE0, if_pos rfl] at hC
      obtain ⟨rfl, h23⟩ := Prod.mk.inj hC
      obtain ⟨rfl, rfl⟩ := Prod.mk.inj h23
      clear hC h23 hE hE0
      go_enter Tryd.func19, Tryd.ntmps19
      go_wp2_with fail
      refine (HP1.out _).mono ?_; rintro e w1 ⟨rfl, rfl⟩
      go_wp2_with fail
      go_ret3
      exact ⟨ret_three (by rw [← HX.out]; rfl) (i64_eq (by unfold nextI; rw [if_pos rfl]; push_cast; omega)) rfl, rfl⟩

/-- fields, a place and an error, handed back -/
def RetT (w : World) (i : Nat) (R : List Fld × Nat × Int) (e : Ending) (w' : World) : Prop := ∃ v', e = .returned (.tuple #[v', .int .i64 (nextI i R.2.1 R.2.2), .int .i64 R.2.2]) ∧ ownF w' w.heap.size v' R.1 ∧ Below w.heap.size w w'
theorem retT_bad {w w' : World} {i : Nat} {R : List Fld × Nat × Int} {E : Int} (h : R = ([], 0, E)) (hE : E ≠ 0) (hb : Below w.heap.size w w') : RetT w i R (.returned (.tuple #[.slice none 0 0, .int .i64 0, .int .i64 E])) w' := by
  subst h; exact ⟨_, ret_three rfl (i64_eq (next_bad hE)) rfl, ownF_nil _ _, hb⟩
set_option maxHeartbeats 2000000 in
set_option maxRecDepth 100000 in
theorem takeTrailers_any (s : List UInt8) (i : Nat) (w : World) (he : EnvC w) (hs : s.length ≤ 1048576) (ha : i ≤ s.length) (h2 : 2 ≤ i) (h13 : s.drop (i - 2) = 13 :: 10 :: s.drop i) :
    Calls Tryd.prog 21 #[.string (bs s), .int .i64 i] w (RetT w i (lastsL (s.drop i))) := by
  have hf := find_any (s.drop (i - 2)) [13, 10, 13, 10] 8194 w he.1 (by decide) (by rw [List.length_drop]; omega)
  rw [show bs [13, 10, 13, 10] = ⟨#[13, 10, 13, 10]⟩ from rfl] at hf
  have hH : lastsL (s.drop i) = if (findL (s.drop (i - 2)) [13, 10, 13, 10] 8194).2 = 0 then
    (if (parseL ((s.drop i).take (findL (s.drop (i - 2)) [13, 10, 13, 10] 8194).1)).2 = 0 then
      ((parseL ((s.drop i).take (findL (s.drop (i - 2)) [13, 10, 13, 10] 8194).1)).1, (findL (s.drop (i - 2)) [13, 10, 13, 10] 8194).1 + 2, 0)
    else ([], 0, (parseL ((s.drop i).take (findL (s.drop (i - 2)) [13, 10, 13, 10] 8194).1)).2))
    else ([], 0, (findL (s.drop (i - 2)) [13, 10, 13, 10] 8194).2) := by rw [h13]; rfl
  have hhit := fun h => find_hit (s := s.drop (i - 2)) (mark := [13, 10, 13, 10]) (most := 8194) (by simp) h
  have hpa := fun (n : Nat) (w' : World) (hb : EnvC w') => parse_any ((s.drop i).take n) w' hb.1 (by rw [List.length_take, List.length_drop]; omega)
  obtain ⟨S, hSe, hSl, hSz⟩ := text_of s
  rw [← hSe]
  have hex1 : S.extract (i - 2) S.size = bs (s.drop (i - 2)) := ext_from hSl (i - 2)
  rw [← hex1] at hf
  have hex2 : ∀ n : Nat, S.extract i (i + n) = bs ((s.drop i).take n) := fun n => by rw [ext_mid hSl, Nat.add_sub_cancel_left]
  have hdl : (s.drop (i - 2)).length = S.size - (i - 2) := by rw [List.length_drop, hSz]
  rw [hdl] at hhit
  rw [← hSz] at hs ha
  have HE := Lib.hid he; clear he h13
  generalize lastsL (s.drop i) = H at hH ⊢
  have herr := fun h => find_err (s := s.drop (i - 2)) (mark := [13, 10, 13, 10]) (most := 8194) h
  generalize findL (s.drop (i - 2)) [13, 10, 13, 10] 8194 = F at *
  obtain ⟨n, e⟩ := F
  simp only at hf hH hhit herr ⊢
  have HF := Lib.hid hf; clear hf
  clear hSe hSl hSz hex1 hdl
  have hi2 : (2 : Int) ≤ i := by omega
  have hq : ((i : Int) - 2).toNat = i - 2 := by omega
  by_cases hz : e = 0
  · subst hz
    obtain ⟨k1, k2, -, -⟩ := hhit rfl
    simp only [List.length_cons, List.length_nil] at k1 k2
    rw [if_pos rfl] at hH
    have hpa2 := hpa n w HE.out
    rw [← hex2 n] at hpa2
    generalize parseL ((s.drop i).take n) = N at hpa2 hH
    obtain ⟨l, x⟩ := N
    unfold RetP at hpa2
    simp only at hpa2 hH
    have HPA := Lib.hid hpa2; clear hpa2
    clear hpa hex2 hhit herr
    have hin : i + n ≤ S.size := by omega
    by_cases hx : x = 0
    · subst hx
      have HR : Hid (H = (l, n + 2, 0)) := by rw [if_pos rfl] at hH; exact hH
      clear hH
      go_enter Tryd.func21, Tryd.ntmps21
      go_wp2_with (go_at_call 31; refine HF.out.mono ?_; rintro e w1 ⟨rfl, rfl⟩)
      refine HPA.out.mono ?_; rintro e w1 ⟨v, rfl, ho, hb1⟩
      obtain ⟨A, c, rfl⟩ := ho.form
      have HB1 := Lib.hid hb1; have HO := Lib.hid ho; clear hb1 ho
      go_wp2_with fail
      go_ret3
      rw [HR.out]
      exact ⟨_, ret_three rfl (i64_eq (by unfold nextI; rw [if_pos rfl]; push_cast; omega)) rfl, HO.out, HB1.out⟩
    · have HR : Hid (H = ([], 0, x)) := by rw [if_neg hx] at hH; exact hH
      have hne : (x != 0) = true := by simpa using hx
      have HX := Lib.hid hx
      clear hH hx
      go_enter Tryd.func21, Tryd.ntmps21
      go_wp2_with (go_at_call 31; refine HF.out.mono ?_; rintro e w1 ⟨rfl, rfl⟩)
      refine HPA.out.mono ?_; rintro e w1 ⟨v, rfl, ho, hb1⟩
      obtain ⟨A, c, rfl⟩ := ho.form
      have HB1 := Lib.hid hb1; clear hb1 ho
      go_wp2_with fail
      go_ret3
      exact retT_bad HR.out HX.out HB1.out
  · have HR : Hid (H = ([], 0, e)) := by rw [if_neg hz] at hH; exact hH
    have hne : (e != 0) = true := by simpa using hz
    have HZ := Lib.hid hz
    clear hH hhit hpa hex2 hz herr
    go_enter Tryd.func21, Tryd.ntmps21
    go_wp2_with (go_at_call 31; refine HF.out.mono ?_; rintro e w1 ⟨rfl, rfl⟩)
    go_ret3
    exact retT_bad HR.out HZ.out (Below.refl _ _)
end Go.Proofs.YtoengnefdndgfaaDoor
