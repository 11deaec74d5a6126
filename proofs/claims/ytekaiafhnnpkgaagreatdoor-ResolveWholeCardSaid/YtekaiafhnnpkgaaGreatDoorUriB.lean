/- A URI's bytes, passed on one by one; which texts are hosts, which are made of plain bytes, escapes and marks. -/
import Derived.Test.YtekaiafhnnpkgaaGreatDoorUriA
namespace Go.Proofs.YtekaiafhnnpkgaaGreatDoor
open Go.RowKit

set_option maxHeartbeats 4000000 in
set_option maxRecDepth 100000 in
theorem pw_any (a b : UInt8) (w : World) (he : EnvU w) :
    Calls Tryz.prog 97 #[.string (bs [a, b]), .int .i64 16, .int .i64 8] w fun e w' => ∃ v, e = .returned (.tuple #[.int .u64 ((pw [a, b] 0).1 : Int), v]) ∧ ((pw [a, b] 0).2 = 0 → v = .nilIface) ∧ ((pw [a, b] 0).2 ≠ 0 → ∃ N, v = .iface 112 (.pointer (some ⟨N, 0, none⟩))) ∧ Below w.heap.size w w' := by
  obtain ⟨-, -, e1, e2⟩ := he
  obtain ⟨tp1, p1, v1⟩ := sen_cell gES e1
  have l1 := Lib.lt_of_cell v1
  clear e1 e2
  have hI := pwI_any (bs [a, b]) w (by rw [bs_size]; rfl)
  have hk : (pw [a, b] 0).2 = 0 ∨ (pw [a, b] 0).2 = 2 := by
    unfold pw
    split
    · unfold pw
      split
      · exact .inl rfl
      · exact .inr rfl
    · exact .inr rfl
  rw [bs_data] at hI
  generalize hP : pw [a, b] 0 = P at hI hk ⊢
  obtain ⟨n, q⟩ := P
  clear hP
  simp only at hk ⊢
  have HI := Lib.hid hI; clear hI
  have hsz : (bs [a, b]).size = 2 := by rw [bs_size]; rfl
  rcases hk with rfl | rfl
  · go_enter Tryz.func97, Tryz.ntmps97
    go_wp2_with (go_at_call 115; refine HI.out.mono ?_; rintro e w1 ⟨rfl, hb1⟩; simp only [pwV, if_true])
    go_wp2
    go_ret2
    exact ⟨_, rfl, rfl, hb1⟩
  · go_enter Tryz.func97, Tryz.ntmps97
    go_wp2_with (go_at_call 115; refine HI.out.mono ?_; rintro e w1 ⟨rfl, hb1⟩; simp only [pwV])
    have hv := (hb1.cell (show (⟨5, 0, none⟩ : Addr).block < w.heap.size from l1)).trans v1
    go_wp2_with (go_at_call 106; refine (Tryz.strconv_toError_syntax _ (bs [a, b]) 16 8 _ _ (by omega) hv (.inr ⟨_, _, rfl⟩)).mono ?_)
    rintro e w2 ⟨N, rfl, -, -, hb2⟩
    go_wp2
    go_ret2
    exact ⟨_, rfl, fun h => absurd h (by decide), fun _ => ⟨N, rfl⟩, hb1.trans (hb2.mono hb1.size)⟩
theorem pw_two (a b : UInt8) : ((hxB a && hxB b) = true → pw [a, b] 0 = (16 * hxD a + hxD b, 0)) ∧ ((hxB a && hxB b) = false → (pw [a, b] 0).2 ≠ 0) := by
  cases ha : hxB a <;> cases hb : hxB b <;> simp [pw, ha, hb]

set_option maxHeartbeats 400000 in
set_option maxRecDepth 100000 in
theorem alnum_any (n : Int) (w : World) :
    Calls Tryz.prog 69 #[.int .u8 n] w fun e w' => e = .returned (.bool (lettI n)) ∧ w = w' := by
  go_enter Tryz.func69, Tryz.ntmps69
  go_wp2
  all_goals go_ret
  all_goals unfold lettI
  all_goals refine ⟨ret_bool ?_, rfl⟩
  all_goals rw [Bool.eq_iff_iff]
  all_goals simp_all
  all_goals omega

theorem plain_cases (n : Int) : plainI n = (lettI n || ((n == 45) || ((n == 46) || ((n == 95) || (n == 126))))) := by
  unfold plainI
  rw [Bool.eq_iff_iff]
  simp
theorem host_cases (n : Int) : hostI n = (lettI n || ((n == 45) || (n == 46))) := by
  unfold hostI
  rw [Bool.eq_iff_iff]
  simp

set_option maxHeartbeats 400000 in
set_option maxRecDepth 100000 in
theorem plain_any (n : Int) (w : World) :
    Calls Tryz.prog 53 #[.int .u8 n] w fun e w' => e = .returned (.bool (plainI n)) ∧ w = w' := by
  rw [plain_cases]
  have ha := alnum_any n w
  generalize lettI n = x at *
  have HA := Lib.hid ha; clear ha
  cases x
  all_goals
    go_enter Tryz.func53, Tryz.ntmps53
    go_wp2_with (go_at_call 69; refine HA.out.mono ?_; rintro e w' ⟨rfl, rfl⟩)
    all_goals go_ret
    all_goals refine ⟨ret_bool ?_, rfl⟩
    all_goals rw [Bool.eq_iff_iff]
    all_goals simp_all

set_option maxHeartbeats 2000000 in
set_option maxRecDepth 100000 in
/-- what stands first in a text, and how many bytes it takes -/
theorem first_any (l : List UInt8) (w : World) (he : EnvU w) (hl : l ≠ []) :
    Calls Tryz.prog 79 #[.string (bs l)] w fun e w' => e = .returned (.tuple #[.int .u8 ((fsB l).toNat : Int), .int .i64 (fsN l : Int)]) ∧ Below w.heap.size w w' := by
  obtain ⟨c, r, rfl⟩ : ∃ c r, l = c :: r := by cases l with | nil => exact absurd rfl hl | cons c r => exact ⟨c, r, rfl⟩
  have h0 : 0 < (bs (c :: r)).size := by rw [bs_size]; simp
  have hg0 : (bs (c :: r))[0] = c := by rw [ByteArray.getElem_eq_getElem_data]; simp [bs]
  by_cases h37 : c = 37
  · subst h37
    match r, h0, hg0 with
    | [], h0, hg0 =>
      have hb : (((bs [37])[0].toNat : Int) == 37) = true := by rw [hg0]; rfl
      have hs : ¬ (3 : Int) ≤ ((bs [37]).size : Int) := by rw [bs_size]; simp
      have HR : Hid (Ending.returned (.tuple #[.int .u8 ((bs [37])[0].toNat : Int), .int .i64 1]) = .returned (.tuple #[.int .u8 ((fsB [37]).toNat : Int), .int .i64 (fsN [37] : Int)])) := by show _ = _; rw [hg0]; rfl
      clear hg0
      go_enter Tryz.func79, Tryz.ntmps79
      go_wp2_with fail
      go_ret2
      exact ⟨HR.out, Below.refl _ _⟩
    | [d], h0, hg0 =>
      have hb : (((bs [37, d])[0].toNat : Int) == 37) = true := by rw [hg0]; rfl
      have hs : ¬ (3 : Int) ≤ ((bs [37, d]).size : Int) := by rw [bs_size]; simp
      have HR : Hid (Ending.returned (.tuple #[.int .u8 ((bs [37, d])[0].toNat : Int), .int .i64 1]) = .returned (.tuple #[.int .u8 ((fsB [37, d]).toNat : Int), .int .i64 (fsN [37, d] : Int)])) := by show _ = _; rw [hg0]; rfl
      clear hg0
      go_enter Tryz.func79, Tryz.ntmps79
      go_wp2_with fail
      go_ret2
      exact ⟨HR.out, Below.refl _ _⟩
    | a :: b :: t, h0, hg0 =>
      have hb : (((bs (37 :: a :: b :: t))[0].toNat : Int) == 37) = true := by rw [hg0]; rfl
      have hs : (3 : Int) ≤ ((bs (37 :: a :: b :: t)).size : Int) := by rw [bs_size]; simp; omega
      have hx : (bs (37 :: a :: b :: t)).extract 1 3 = bs [a, b] := bs_of (by rw [Lib.extract_data, bs_data]; rfl)
      have hpw := pw_any a b w he
      obtain ⟨hp1, hp2⟩ := pw_two a b
      have HPW := Lib.hid hpw; clear hpw
      cases hh : (hxB a && hxB b)
      · have HR : Hid (Ending.returned (.tuple #[.int .u8 ((bs (37 :: a :: b :: t))[0].toNat : Int), .int .i64 1]) = .returned (.tuple #[.int .u8 ((fsB (37 :: a :: b :: t)).toNat : Int), .int .i64 (fsN (37 :: a :: b :: t) : Int)])) := by
          show _ = _; rw [hg0]; simp [fsB, fsN, esc3, hh]
        have HP := Lib.hid (hp2 hh); clear hp1 hp2 hh hg0
        go_enter Tryz.func79, Tryz.ntmps79
        go_wp2_with (go_at_call 97; (try rw [hx]); refine HPW.out.mono ?_)
        rintro e w1 ⟨v, rfl, -, hv, hb1⟩
        obtain ⟨N, rfl⟩ := hv HP.out
        have HB1 := Lib.hid hb1; clear hb1
        go_wp2_with fail
        go_ret2
        exact ⟨HR.out, HB1.out⟩
      · have HP := Lib.hid (hp1 hh)
        have hlt := hxD_lt a
        have hlt2 := hxD_lt b
        have HR : Hid (Ending.returned (.tuple #[.int .u8 (((16 * hxD a + hxD b : Nat)) : Int), .int .i64 3]) = .returned (.tuple #[.int .u8 ((fsB (37 :: a :: b :: t)).toNat : Int), .int .i64 (fsN (37 :: a :: b :: t) : Int)])) := by
          show _ = _
          have h1 : fsB (37 :: a :: b :: t) = hx2 a b := by simp [fsB, hh]
          have h2 : fsN (37 :: a :: b :: t) = 3 := by simp [fsN, esc3, hh]
          have h3 : (hx2 a b).toNat = 16 * hxD a + hxD b := by unfold hx2; rw [UInt8.toNat_ofNat']; omega
          rw [h1, h2, h3]; rfl
        have hm : 16 * hxD a + hxD b < 256 := by omega
        clear hp1 hp2 hh hg0 hlt hlt2
        rw [HP.out] at HPW
        generalize 16 * hxD a + hxD b = m at *
        clear HP
        go_enter Tryz.func79, Tryz.ntmps79
        go_wp2_with (go_at_call 97; (try rw [hx]); refine HPW.out.mono ?_)
        rintro e w1 ⟨v, rfl, hv, -, hb1⟩
        obtain rfl := hv trivial
        have HB1 := Lib.hid hb1; clear hb1
        go_wp2_with fail
        go_ret2
        exact ⟨HR.out, HB1.out⟩
  · have hb : (((bs (c :: r))[0].toNat : Int) == 37) = false := by
      rw [hg0, beq_eq_false_iff_ne]
      intro h
      exact h37 (UInt8.toNat_inj.1 (by show c.toNat = 37; omega))
    have HR : Hid (Ending.returned (.tuple #[.int .u8 ((bs (c :: r))[0].toNat : Int), .int .i64 1]) = .returned (.tuple #[.int .u8 ((fsB (c :: r)).toNat : Int), .int .i64 (fsN (c :: r) : Int)])) := by
      have hc : (c == 37) = false := by rw [beq_eq_false_iff_ne]; exact h37
      have h1 : fsB (c :: r) = c := by
        match r with
        | [] => rfl
        | [d] => rfl
        | a :: b :: t => simp [fsB, hc]
      have h2 : fsN (c :: r) = 1 := by
        match r with
        | [] => rfl
        | [d] => rfl
        | a :: b :: t => simp [fsN, esc3, hc]
      show _ = _
      rw [hg0, h1, h2]; rfl
    clear hg0 h37
    go_enter Tryz.func79, Tryz.ntmps79
    go_wp2_with fail
    go_ret2
    exact ⟨HR.out, Below.refl _ _⟩

set_option maxHeartbeats 2000000 in
set_option maxRecDepth 100000 in
/-- a text's bytes passed on to a function that captures nothing -/
theorem scan_any (l : List UInt8) (f : FuncId) (p : UInt8 × Bool → Bool) (I : List (UInt8 × Bool) → World → Prop) (he : ∀ args w, (callFunc f args).run Tryz.prog w = .ok (.enter f args) w)
    (hk : ∀ T w w', I T w → Below w.heap.size w w' → I T w') (hE : ∀ T w, I T w → EnvU w)
    (hf : ∀ T c e w, (∃ R, toks l = T ++ (c, e) :: R) → I T w → Calls Tryz.prog f #[.int .u8 ((c : UInt8).toNat : Int), .bool e] w fun r w' => r = .returned (.bool (p (c, e))) ∧ I (T ++ [(c, e)]) w')
    (w : World) (h0 : I [] w) (hl : l.length ≤ 281474976710656) :
    Calls Tryz.prog 51 #[.string (bs l), .func (.func f) #[] #[]] w fun r w' => r = .returned (.bool ((toks l).all p)) ∧ (∃ T, I T w') ∧ ((toks l).all p = true → I (toks l) w') := by
  have HF := Lib.hid hf; have HK := Lib.hid hk; have HE := Lib.hid hE; clear hf hk hE
  have H0 := Lib.hid h0; clear h0
  have HL := Lib.hid hl; clear hl
  obtain ⟨s, hs, hsl⟩ : ∃ s : ByteArray, s = bs l ∧ s.data.toList = l := ⟨_, rfl, bs_data _⟩
  rw [← hs]
  have HSL := Lib.hid hsl; clear hs hsl
  go_enter Tryz.func51, Tryz.ntmps51
  go_wp2_with fail
  go_loopw [0] (fun v wr => ∃ (r : List UInt8) (T : List (UInt8 × Bool)), v = .string (bs r) ∧ Hid (toks l = T ++ toks r ∧ T.all p = true ∧ r.length ≤ l.length) ∧ I T wr) (fun v _ => match v with | .string t => t.size | _ => 0)
  case atStart => exact ⟨l, [], by rw [bs_of HSL.out], ⟨rfl, rfl, Nat.le_refl _⟩, H0.out⟩
  case round =>
    obtain ⟨r, T, rfl, hh, hi⟩ := hrel
    have HI := Lib.hid hi; clear hi
    by_cases hr : r = []
    · subst hr
      have hne : (bs []).toList.isEmpty = true := by rw [Lib.toList_data, bs_data]; rfl
      have HA : Hid ((toks l).all p = true ∧ toks l = T) := by
        obtain ⟨h1, h2, -⟩ := hh.out
        have h3 : toks l = T := by rw [h1]; simp [toks]
        exact ⟨by rw [h3]; exact h2, h3⟩
      go_wp2_with fail
      go_ret
      exact ⟨ret_bool HA.out.1.symm, ⟨T, HI.out⟩, fun _ => by rw [HA.out.2]; exact HI.out⟩
    · have hne : (bs r).toList.isEmpty = false := by rw [Lib.toList_data, bs_data]; cases r with | nil => exact absurd rfl hr | cons => rfl
      have HFS := Lib.hid (first_any r wr (HE.out _ _ HI.out) hr)
      obtain ⟨hn1, hn2⟩ := fsN_le hr
      have hn3 : fsN r ≤ (bs r).size := by rw [bs_size]; exact hn2
      have hesc : (((fsN r : Nat) : Int) == 3) = esc3 r := by unfold fsN; cases esc3 r <;> rfl
      have HST : Hid (toks l = (T ++ [(fsB r, esc3 r)]) ++ toks (r.drop (fsN r))) := by
        show _ = _
        rw [hh.out.1, toks_step hr]; simp
      have HDR : Hid ((bs r).extract (fsN r) r.length = bs (r.drop (fsN r))) := bs_of (by rw [← bs_size, Lib.extract_to_end, bs_data])
      have HLE : Hid ((r.drop (fsN r)).length ≤ l.length ∧ (r.drop (fsN r)).length < r.length) := by
        have := hh.out.2.2
        show _ ∧ _
        rw [List.length_drop]; omega
      have HTR : Hid (∃ R, toks l = T ++ (fsB r, esc3 r) :: R) := ⟨toks (r.drop (fsN r)), by rw [HST.out]; simp⟩
      generalize fsB r = c at *
      generalize esc3 r = e at *
      generalize hn : fsN r = n at *
      cases hp : p (c, e)
      · have HN : Hid ((toks l).all p = false) := by show _ = _; rw [HST.out]; simp [hp]
        have HP := Lib.hid hp; clear hp
        go_wp2_with (go_at_call 79; refine HFS.out.mono ?_)
        rintro r1 w1 ⟨rfl, hb1⟩
        have HI1 := Lib.hid (HK.out _ _ _ HI.out hb1); clear hb1
        go_wp2_with (go_at_fn f; (try rw [hesc]); refine (HF.out T c e _ HTR.out HI1.out).mono ?_; rw [HP.out])
        rintro r2 w2 ⟨rfl, hi2⟩
        have HI2 := Lib.hid hi2; clear hi2
        go_wp2_with fail
        go_ret
        exact ⟨ret_bool HN.out.symm, ⟨_, HI2.out⟩, fun h => by rw [HN.out] at h; cases h⟩
      · have HN : Hid ((T ++ [(c, e)]).all p = true) := by show _ = _; simp [hp]; simpa using hh.out.2.1
        have HP := Lib.hid hp; clear hp
        go_wp2_with (go_at_call 79; refine HFS.out.mono ?_)
        rintro r1 w1 ⟨rfl, hb1⟩
        have HI1 := Lib.hid (HK.out _ _ _ HI.out hb1); clear hb1
        go_wp2_with (go_at_fn f; (try rw [hesc]); refine (HF.out T c e _ HTR.out HI1.out).mono ?_; rw [HP.out])
        rintro r2 w2 ⟨rfl, hi2⟩
        have HI2 := Lib.hid hi2; clear hi2
        go_wp2_with fail
        go_roundw
        case rel => exact ⟨r.drop n, T ++ [(c, e)], by rw [HDR.out], ⟨HST.out, HN.out, HLE.out.1⟩, HI2.out⟩
        case measure => rw [HDR.out]; simp only [bs_size]; exact HLE.out.2

set_option maxHeartbeats 2000000 in
set_option maxRecDepth 100000 in
/-- a text's bytes passed on to a function that captures one variable -/
theorem scanC_any (l : List UInt8) (f : FuncId) (b : Nat) (p : UInt8 × Bool → Bool) (I : List (UInt8 × Bool) → World → Prop) (he : ∀ args w, (callFunc f args).run Tryz.prog w = .ok (.enter f args) w)
    (hk : ∀ T w w', I T w → Below w.heap.size w w' → I T w') (hE : ∀ T w, I T w → EnvU w)
    (hf : ∀ T c e w, (∃ R, toks l = T ++ (c, e) :: R) → I T w → Calls Tryz.prog f #[.int .u8 ((c : UInt8).toNat : Int), .bool e, .pointer (some ⟨b, 0, none⟩)] w fun r w' => r = .returned (.bool (p (c, e))) ∧ I (T ++ [(c, e)]) w')
    (w : World) (h0 : I [] w) (hl : l.length ≤ 281474976710656) :
    Calls Tryz.prog 51 #[.string (bs l), .func (.func f) #[] #[.pointer (some ⟨b, 0, none⟩)]] w fun r w' => r = .returned (.bool ((toks l).all p)) ∧ (∃ T, I T w') ∧ ((toks l).all p = true → I (toks l) w') := by
  have HF := Lib.hid hf; have HK := Lib.hid hk; have HE := Lib.hid hE; clear hf hk hE
  have H0 := Lib.hid h0; clear h0
  have HL := Lib.hid hl; clear hl
  obtain ⟨s, hs, hsl⟩ : ∃ s : ByteArray, s = bs l ∧ s.data.toList = l := ⟨_, rfl, bs_data _⟩
  rw [← hs]
  have HSL := Lib.hid hsl; clear hs hsl
  go_enter Tryz.func51, Tryz.ntmps51
  go_wp2_with fail
  go_loopw [0] (fun v wr => ∃ (r : List UInt8) (T : List (UInt8 × Bool)), v = .string (bs r) ∧ Hid (toks l = T ++ toks r ∧ T.all p = true ∧ r.length ≤ l.length) ∧ I T wr) (fun v _ => match v with | .string t => t.size | _ => 0)
  case atStart => exact ⟨l, [], by rw [bs_of HSL.out], ⟨rfl, rfl, Nat.le_refl _⟩, H0.out⟩
  case round =>
    obtain ⟨r, T, rfl, hh, hi⟩ := hrel
    have HI := Lib.hid hi; clear hi
    by_cases hr : r = []
    · subst hr
      have hne : (bs []).toList.isEmpty = true := by rw [Lib.toList_data, bs_data]; rfl
      have HA : Hid ((toks l).all p = true ∧ toks l = T) := by
        obtain ⟨h1, h2, -⟩ := hh.out
        have h3 : toks l = T := by rw [h1]; simp [toks]
        exact ⟨by rw [h3]; exact h2, h3⟩
      go_wp2_with fail
      go_ret
      exact ⟨ret_bool HA.out.1.symm, ⟨T, HI.out⟩, fun _ => by rw [HA.out.2]; exact HI.out⟩
    · have hne : (bs r).toList.isEmpty = false := by rw [Lib.toList_data, bs_data]; cases r with | nil => exact absurd rfl hr | cons => rfl
      have HFS := Lib.hid (first_any r wr (HE.out _ _ HI.out) hr)
      obtain ⟨hn1, hn2⟩ := fsN_le hr
      have hn3 : fsN r ≤ (bs r).size := by rw [bs_size]; exact hn2
      have hesc : (((fsN r : Nat) : Int) == 3) = esc3 r := by unfold fsN; cases esc3 r <;> rfl
      have HST : Hid (toks l = (T ++ [(fsB r, esc3 r)]) ++ toks (r.drop (fsN r))) := by
        show _ = _
        rw [hh.out.1, toks_step hr]; simp
      have HDR : Hid ((bs r).extract (fsN r) r.length = bs (r.drop (fsN r))) := bs_of (by rw [← bs_size, Lib.extract_to_end, bs_data])
      have HLE : Hid ((r.drop (fsN r)).length ≤ l.length ∧ (r.drop (fsN r)).length < r.length) := by
        have := hh.out.2.2
        show _ ∧ _
        rw [List.length_drop]; omega
      have HTR : Hid (∃ R, toks l = T ++ (fsB r, esc3 r) :: R) := ⟨toks (r.drop (fsN r)), by rw [HST.out]; simp⟩
      generalize fsB r = c at *
      generalize esc3 r = e at *
      generalize hn : fsN r = n at *
      cases hp : p (c, e)
      · have HN : Hid ((toks l).all p = false) := by show _ = _; rw [HST.out]; simp [hp]
        have HP := Lib.hid hp; clear hp
        go_wp2_with (go_at_call 79; refine HFS.out.mono ?_)
        rintro r1 w1 ⟨rfl, hb1⟩
        have HI1 := Lib.hid (HK.out _ _ _ HI.out hb1); clear hb1
        go_wp2_with (go_at_fn f; (try rw [hesc]); refine (HF.out T c e _ HTR.out HI1.out).mono ?_; rw [HP.out])
        rintro r2 w2 ⟨rfl, hi2⟩
        have HI2 := Lib.hid hi2; clear hi2
        go_wp2_with fail
        go_ret
        exact ⟨ret_bool HN.out.symm, ⟨_, HI2.out⟩, fun h => by rw [HN.out] at h; cases h⟩
      · have HN : Hid ((T ++ [(c, e)]).all p = true) := by show _ = _; simp [hp]; simpa using hh.out.2.1
        have HP := Lib.hid hp; clear hp
        go_wp2_with (go_at_call 79; refine HFS.out.mono ?_)
        rintro r1 w1 ⟨rfl, hb1⟩
        have HI1 := Lib.hid (HK.out _ _ _ HI.out hb1); clear hb1
        go_wp2_with (go_at_fn f; (try rw [hesc]); refine (HF.out T c e _ HTR.out HI1.out).mono ?_; rw [HP.out])
        rintro r2 w2 ⟨rfl, hi2⟩
        have HI2 := Lib.hid hi2; clear hi2
        go_wp2_with fail
        go_roundw
        case rel => exact ⟨r.drop n, T ++ [(c, e)], by rw [HDR.out], ⟨HST.out, HN.out, HLE.out.1⟩, HI2.out⟩
        case measure => rw [HDR.out]; simp only [bs_size]; exact HLE.out.2
end Go.Proofs.YtekaiafhnnpkgaaGreatDoor
