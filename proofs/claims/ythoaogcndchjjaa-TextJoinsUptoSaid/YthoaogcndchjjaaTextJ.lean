/- TextJoins: the pieces of a list that is put together of tokens and quoted texts are these. -/
import Derived.Test.YthoaogcndchjjaaTextX
import Derived.Test.YthoaogcndchjjaaText4
import Derived.Deep.QuietTactic
import Derived.BigQuiet
namespace Go.Proofs.Ythoaogcndchjjaa
open Go.RowKit

/-- an argument that is a slice of texts -/
def argS (w : World) (v : Value) (L : List ByteArray) : Prop :=
  (v = .slice none 0 0 ∧ L = []) ∨ ∃ a cap, v = .slice (some a) L.length cap ∧ ∀ i, i < L.length → ∃ b off, a = ⟨b, off, none⟩ ∧ w.cell? ⟨b, off + i, none⟩ = some (.string (L.getD i ByteArray.empty))
theorem argS.form {w : World} {v : Value} {L : List ByteArray} (h : argS w v L) : ∃ a c, v = .slice a L.length c := by
  rcases h with ⟨rfl, rfl⟩ | ⟨a, cap, rfl, _⟩
  · exact ⟨none, 0, rfl⟩
  · exact ⟨_, _, rfl⟩
theorem argS.cell {w : World} {a : Option Addr} {n c : Nat} {L : List ByteArray} (h : argS w (.slice a n c) L) (i : Nat) (hi : i < L.length) :
    ∃ b off, a = some ⟨b, off, none⟩ ∧ b < w.heap.size ∧ w.cell? ⟨b, off + i, none⟩ = some (.string (L.getD i ByteArray.empty)) := by
  rcases h with ⟨_, rfl⟩ | ⟨a, cap, hv, hc⟩
  · cases hi
  · simp only [Value.slice.injEq] at hv
    obtain ⟨rfl, _, _⟩ := hv
    obtain ⟨b, off, rfl, h⟩ := hc i hi
    exact ⟨b, off, rfl, World.block_lt_of_cell? w _ h, h⟩

theorem add_str {x y z : ByteArray} (w : World) (h : z = x ++ y) (hl : x.size + y.size ≤ 9223372036854775807) : (Op.stringOp .add x y).run Try.prog w = .ok (.string z) w := by
  rw [h]; exact run_string_add_sum w x y hl
def txt (L : List ByteArray) (k : Nat) : List UInt8 := (L.getD k ByteArray.empty).data.toList

theorem gaps_rep (c : UInt8) (hc : blankB c = true) : ∀ n, gaps (Lib.repeatL [c] n)
  | 0 => by intro x hx; cases hx
  | n + 1 => by
    intro x hx
    simp only [Lib.repeatL, List.singleton_append, List.mem_cons] at hx
    rcases hx with rfl | hx
    · exact hc
    · exact gaps_rep c hc n x hx

set_option maxHeartbeats 4000000 in
theorem textJoins_any (v : Value) (L : List ByteArray) (p : Int) (w : World) (hv : argS w v L) (hL : ∀ x ∈ L, x.size ≤ 1048576) (hp : (Lit.int .u8 p).wf = true) :
    Calls Try.prog 9 #[v, .int .u8 p] w fun e w' => e = .returned (.bool true) ∧ Below w.heap.size w w' := by
  have hpr : 0 ≤ p ∧ p ≤ 255 := by simpa [Lit.wf, IntKind.min, IntKind.max, IntKind.signed, IntKind.bits] using hp
  clear hp
  obtain ⟨n, rfl⟩ : ∃ n : Nat, p = n := ⟨p.toNat, by omega⟩
  have hn : n ≤ 255 := by omega
  clear hpr
  have hb0 := Bel.refl w
  obtain ⟨va, vc, rfl⟩ := hv.form
  have HV := Lib.hid hv; clear hv
  by_cases hbig : 30 < (L.length : Int)
  · go_enter Try.func9, Try.ntmps9
    go_wp2_with (go_at_call 11; refine (carry (by assumption) (awake_any _)).mono ?_; rintro e w' ⟨rfl, hb1⟩)
    go_ret
    exact ⟨rfl, by assumption⟩
  · have HL := Lib.hid hL
    clear hL
    go_enter Try.func9, Try.ntmps9
    go_wp2_with fail
    go_loopw [5, 6] (fun u i wr => ∃ k : Nat, k ≤ L.length ∧ i = .int .i64 k ∧ ownS wr w.heap.size u (wantTo (txt L) k) ∧ Below w.heap.size w wr) (fun _ i _ => L.length - (intOf i).toNat)
    case atStart => exact ⟨0, Nat.zero_le _, rfl, ownS_nil _ _, Below.refl _ _⟩
    case round =>
      obtain ⟨k, hk, rfl, hown, hbel⟩ := hrel
      have HO := Lib.hid hown; clear hown
      have HB := Lib.hid hbel; clear hbel
      by_cases hlt : k < L.length
      · have hki : (k : Int) < (L.length : Int) := by omega
        have hwl := (wantTo_len (txt L) k).1
        obtain ⟨b, off, rfl, hbw, hc0⟩ := HV.out.cell k hlt
        have hxl : (L.getD k ByteArray.empty).size ≤ 1048576 := by
          rw [List.getD_eq_getElem?_getD, List.getElem?_eq_getElem hlt]
          exact HL.out _ (List.getElem_mem hlt)
        have hW : Hid (wantTo (txt L) (k + 1) = wantTo (txt L) k ++ wantAt k (L.getD k ByteArray.empty).data.toList) := rfl
        generalize L.getD k ByteArray.empty = x at *
        generalize hWk : wantTo (txt L) k = Wk at *
        clear hWk
        have hc1 : wr.cell? ⟨b, off + k, none⟩ = some (.string x) := (HB.out.cell (p := ⟨b, off + k, none⟩) hbw).trans hc0
        have hbr : b < wr.heap.size := Nat.lt_of_lt_of_le hbw HB.out.size
        clear hc0
        have hq := quote_any x wr (by omega)
        have HX : Hid (x.size = x.data.toList.length) := rfl
        by_cases hlong : 100 < (x.size : Int)
        · have HA : Hid (wantAt k x.data.toList = []) := by show _ = _; unfold wantAt; rw [if_pos (.inl (by rw [← HX.out]; omega))]
          have HQ := Lib.hid hq; clear hq
          go_wp2_with (go_at_call 20; refine HQ.out.mono ?_; rintro e w1 ⟨rfl, hb1⟩; have hc2 : w1.cell? ⟨b, off + k, none⟩ = some (.string x) := (hb1.cell (p := ⟨b, off + k, none⟩) hbr).trans hc1; have HB1 := Lib.hid hb1; clear hb1)
          go_roundw
          case rel => exact ⟨k + 1, by omega, by go_num, by rw [hW.out, HA.out, List.append_nil]; exact HO.out.below HB1.out (Nat.le_refl _), HB.out.trans (HB1.out.mono HB.out.size)⟩
          case measure => simp [intOf]; omega
        · cases hall : x.data.toList.all mayB
          · have HA : Hid (wantAt k x.data.toList = []) := by show _ = _; unfold wantAt; rw [if_pos (.inr hall)]
            rw [show quoteE x.data.toList = 4 from by rw [quoteE, hall]; rfl] at hq
            have HQ := Lib.hid hq; clear hq hall
            go_wp2_with (go_at_call 20; refine HQ.out.mono ?_; rintro e w1 ⟨rfl, hb1⟩; have hc2 : w1.cell? ⟨b, off + k, none⟩ = some (.string x) := (hb1.cell (p := ⟨b, off + k, none⟩) hbr).trans hc1; have HB1 := Lib.hid hb1; clear hb1)
            go_roundw
            case rel => exact ⟨k + 1, by omega, by go_num, by rw [hW.out, HA.out, List.append_nil]; exact HO.out.below HB1.out (Nat.le_refl _), HB.out.trans (HB1.out.mono HB.out.size)⟩
            case measure => simp [intOf]; omega
          · rw [show quoteE x.data.toList = 0 from by rw [quoteE, hall]; rfl] at hq
            have hnot : ¬ (100 < x.data.toList.length ∨ x.data.toList.all mayB = false) := by rw [hall, ← HX.out]; simp; omega
            have HQ := Lib.hid hq; clear hq hall
            have htk := fun w1 => token_any x w1 (by unfold maxLen; omega)
            by_cases hodd : (k : Int) % 2 = 0 ∧ token x.data.toList = true
            · have HA : Hid (wantAt k x.data.toList = [x.data.toList]) := by show _ = _; unfold wantAt; rw [if_neg hnot, if_pos ⟨hodd.2, by omega⟩]
              rw [hodd.2] at htk
              have HK := Lib.hid htk
              have hm2 : ((k : Int) % 2 == 0) = true := beq_iff_eq.2 hodd.1
              clear htk hodd hnot
              go_wp2_with (first
                | (go_at_call 20; refine HQ.out.mono ?_; rintro e w1 ⟨rfl, hb1⟩; have hc2 : w1.cell? ⟨b, off + k, none⟩ = some (.string x) := (hb1.cell (p := ⟨b, off + k, none⟩) hbr).trans hc1; have HO1 := Lib.hid (HO.out.below hb1 (Nat.le_refl _)); have HB1 := Lib.hid (HB.out.trans (hb1.mono HB.out.size)); clear hb1)
                | (go_at_call 12; refine (HK.out _).mono ?_; rintro e w' ⟨rfl, rfl⟩)
                | (at_builtin; refine wpList_appS rfl (.tmp 55) (.tmp 57) rfl w.heap.size w.heap.size _ _ x.data.toList rfl HO1.out HB1.out (Nat.le_refl _) HB1.out.size rfl (by omega) ?_; intro v' w' HO2 HB2 _))
              go_roundw
              case rel => exact ⟨k + 1, by omega, by go_num, by rw [hW.out, HA.out]; exact HO2.out, HB2.out⟩
              case measure => simp [intOf]; omega
            · have HA : Hid (wantAt k x.data.toList = [quoteS x.data.toList]) := by show _ = _; unfold wantAt; rw [if_neg hnot, if_neg (by rintro ⟨h1, h2⟩; exact hodd ⟨by omega, h1⟩)]
              clear hnot
              cases htt : token x.data.toList
              · rw [htt] at htk
                have HK := Lib.hid htk
                clear htk hodd htt
                go_wp2_with (first
                  | (go_at_call 20; refine HQ.out.mono ?_; rintro e w1 ⟨rfl, hb1⟩; have hc2 : w1.cell? ⟨b, off + k, none⟩ = some (.string x) := (hb1.cell (p := ⟨b, off + k, none⟩) hbr).trans hc1; have HO1 := Lib.hid (HO.out.below hb1 (Nat.le_refl _)); have HB1 := Lib.hid (HB.out.trans (hb1.mono HB.out.size)); clear hb1)
                  | (go_at_call 12; refine (HK.out _).mono ?_; rintro e w' ⟨rfl, rfl⟩)
                  | (at_builtin; refine wpList_appS rfl (.tmp 55) (.tmp 57) rfl w.heap.size w.heap.size _ _ (quoteS x.data.toList) rfl HO1.out HB1.out (Nat.le_refl _) HB1.out.size rfl (by omega) ?_; intro v' w' HO2 HB2 _))
                go_roundw
                case rel => exact ⟨k + 1, by omega, by go_num, by rw [hW.out, HA.out]; exact HO2.out, HB2.out⟩
                case measure => simp [intOf]; omega
              · rw [htt] at htk
                have HK := Lib.hid htk
                have hm2 : ((k : Int) % 2 == 0) = false := beq_eq_false_iff_ne.2 fun h => hodd ⟨h, htt⟩
                clear htk hodd htt
                go_wp2_with (first
                  | (go_at_call 20; refine HQ.out.mono ?_; rintro e w1 ⟨rfl, hb1⟩; have hc2 : w1.cell? ⟨b, off + k, none⟩ = some (.string x) := (hb1.cell (p := ⟨b, off + k, none⟩) hbr).trans hc1; have HO1 := Lib.hid (HO.out.below hb1 (Nat.le_refl _)); have HB1 := Lib.hid (HB.out.trans (hb1.mono HB.out.size)); clear hb1)
                  | (go_at_call 12; refine (HK.out _).mono ?_; rintro e w' ⟨rfl, rfl⟩)
                  | (at_builtin; refine wpList_appS rfl (.tmp 55) (.tmp 57) rfl w.heap.size w.heap.size _ _ (quoteS x.data.toList) rfl HO1.out HB1.out (Nat.le_refl _) HB1.out.size rfl (by omega) ?_; intro v' w' HO2 HB2 _))
                go_roundw
                case rel => exact ⟨k + 1, by omega, by go_num, by rw [hW.out, HA.out]; exact HO2.out, HB2.out⟩
                case measure => simp [intOf]; omega
      · have hWp := wantTo_piece (txt L) k
        have hWl := wantTo_len (txt L) k
        generalize wantTo (txt L) k = W at *
        have hk30 : k ≤ 30 := by omega
        have hw1 : W.length ≤ 30 := by omega
        have hw2 : W.flatten.length ≤ 6060 := by omega
        have HWP := Lib.hid hWp
        clear hWp hWl HL hk30
        have hg1 : gaps (Lib.repeatL [32] (n % 4)) := gaps_rep 32 (by decide) _
        have hg2 : gaps (Lib.repeatL [9] (n / 4 % 3)) := gaps_rep 9 (by decide) _
        have hl1 := Lib.repeatL_length [32] (n % 4)
        have hl2 := Lib.repeatL_length [9] (n / 4 % 3)
        have hr1 := fun w1 => Try.strings_Repeat (⟨#[32]⟩ : ByteArray) (n % 4) w1 (by omega) (by show 1 * (n % 4) ≤ _; omega)
        have hr2 := fun w1 => Try.strings_Repeat (⟨#[9]⟩ : ByteArray) (n / 4 % 3) w1 (by omega) (by show 1 * (n / 4 % 3) ≤ _; omega)
        rw [show ((n % 4 : Nat) : Int) = (n : Int) % 4 from by omega, show (⟨(Lib.repeatL (⟨#[32]⟩ : ByteArray).data.toList (n % 4)).toArray⟩ : ByteArray) = bs (Lib.repeatL [32] (n % 4)) from rfl] at hr1
        rw [show ((n / 4 % 3 : Nat) : Int) = (n : Int) / 4 % 3 from by omega, show (⟨(Lib.repeatL (⟨#[9]⟩ : ByteArray).data.toList (n / 4 % 3)).toArray⟩ : ByteArray) = bs (Lib.repeatL [9] (n / 4 % 3)) from rfl] at hr2
        have hga : gaps (Lib.repeatL [32] (n % 4) ++ Lib.repeatL [9] (n / 4 % 3)) := by
          intro c hc
          rcases List.mem_append.1 hc with h | h
          · exact hg1 c h
          · exact hg2 c h
        generalize Lib.repeatL [32] (n % 4) = r1 at *
        generalize Lib.repeatL [9] (n / 4 % 3) = r2 at *
        have hz1 : (bs r1).size ≤ 10 := by rw [bs_size, hl1]; simp; omega
        have hz2 : (bs r2).size ≤ 10 := by rw [bs_size, hl2]; simp; omega
        obtain ⟨G, hG⟩ : ∃ G, G = bs r1 ++ bs r2 := ⟨_, rfl⟩
        have hGd : G.data.toList = r1 ++ r2 := by rw [hG, cat_data, bs_data, bs_data]
        have hGz : G.size ≤ 20 := by rw [hG, ByteArray.size_append]; omega
        have s1 := fun w3 => add_str w3 hG (by omega)
        obtain ⟨G1, hG1⟩ : ∃ G1, G1 = G ++ ⟨#[44]⟩ := ⟨_, rfl⟩
        have s2 := fun w3 => add_str w3 hG1 (by show G.size + 1 ≤ _; omega)
        have hG1z : G1.size ≤ 21 := by rw [hG1, ByteArray.size_append]; show G.size + 1 ≤ 21; omega
        obtain ⟨G2, hG2⟩ : ∃ G2, G2 = G1 ++ G := ⟨_, rfl⟩
        have s3 := fun w3 => add_str w3 hG2 (by omega)
        have hsd : G2.data.toList = (r1 ++ r2) ++ [44] ++ (r1 ++ r2) := by rw [hG2, hG1, cat_data, cat_data, hGd]
        have hG2z : G2.size ≤ 41 := by rw [hG2, ByteArray.size_append]; omega
        have hsz : ((r1 ++ r2) ++ [44] ++ (r1 ++ r2)).length ≤ 41 := by rw [← hsd]; exact hG2z
        have hjl : (Lib.join W ((r1 ++ r2) ++ [44] ++ (r1 ++ r2))).length ≤ 10000 := by
          have h1 := join_len ((r1 ++ r2) ++ [44] ++ (r1 ++ r2)) W
          have h2 : W.length * ((r1 ++ r2) ++ [44] ++ (r1 ++ r2)).length ≤ 30 * 41 := Nat.mul_le_mul hw1 hsz
          omega
        have hjn := fun w3 v3 h => join_any w.heap.size v3 W G2 w3 h (by omega) (by rw [hsd]; omega)
        rw [hsd] at hjn
        obtain ⟨hE, hL2⟩ := split_all hga W HWP.out (by omega)
        generalize Lib.join W ((r1 ++ r2) ++ [44] ++ (r1 ++ r2)) = J at *
        have hJz : (bs J).size ≤ 10000 := by rw [bs_size]; exact hjl
        obtain ⟨K1, hK1⟩ : ∃ K1, K1 = G ++ bs J := ⟨_, rfl⟩
        have s4 := fun w3 => add_str w3 hK1 (by omega)
        have hK1z : K1.size ≤ 10020 := by rw [hK1, ByteArray.size_append]; omega
        obtain ⟨K2, hK2⟩ : ∃ K2, K2 = K1 ++ G := ⟨_, rfl⟩
        have s5 := fun w3 => add_str w3 hK2 (by omega)
        have hK2z : K2.size ≤ 10040 := by rw [hK2, ByteArray.size_append]; omega
        obtain ⟨K3, hK3⟩ : ∃ K3, K3 = K2 ++ ⟨#[44]⟩ := ⟨_, rfl⟩
        have s6 := fun w3 => add_str w3 hK3 (by show K2.size + 1 ≤ _; omega)
        have hK3z : K3.size ≤ 10041 := by rw [hK3, ByteArray.size_append]; show K2.size + 1 ≤ 10041; omega
        have hfd : K3.data.toList = (r1 ++ r2) ++ J ++ (r1 ++ r2) ++ [44] := by rw [hK3, hK2, hK1, cat_data, cat_data, cat_data, hGd, bs_data]
        have hsp := fun w4 => split_any K3 44 w4 (by omega)
        unfold SplitPost at hsp
        rw [hfd, hE, hL2] at hsp
        have HSP := Lib.hid hsp; have HJN := Lib.hid hjn
        clear hsp hfd hE hL2 hjn hsd hsz hjl hK1 hK2 hK3 hG hG1 hG2 hGd hga HWP hJz hz1 hz2
        have HR1 := Lib.hid hr1; have HR2 := Lib.hid hr2
        clear hr1 hr2 hg1 hg2 hl1 hl2
        go_wp2_with fail
        refine (HR1.out _).mono ?_; rintro e w1 ⟨rfl, hb1⟩
        have HO1 := Lib.hid (HO.out.below hb1 (Nat.le_refl _)); have HB1 := Lib.hid (HB.out.trans (hb1.mono HB.out.size)); clear hb1
        go_wp2_with fail
        refine (HR2.out _).mono ?_; rintro e w2 ⟨rfl, hb2⟩
        have HO2 := Lib.hid (HO1.out.below hb2 (Nat.le_refl _)); have HB2 := Lib.hid (HB1.out.trans (hb2.mono HB1.out.size)); clear hb2
        go_wp2_with fail
        refine (HJN.out _ _ HO2.out).mono ?_; rintro e w3 ⟨rfl, hb3⟩
        have HO3 := Lib.hid (HO2.out.below hb3 (Nat.le_refl _)); have HB3 := Lib.hid (HB2.out.trans (hb3.mono HB2.out.size)); clear hb3
        go_wp2_with fail
        refine (HSP.out _).mono ?_; rintro e w4 ⟨v4, rfl, ho4, hb4⟩
        have HO4 := Lib.hid (HO3.out.below hb4 (Nat.le_refl _)); have HB4 := Lib.hid (HB3.out.trans (hb4.mono HB3.out.size)); have HG4 := Lib.hid ho4; clear hb4 ho4
        obtain ⟨a4, c4, rfl⟩ := HG4.out.form
        obtain ⟨a5, c5, rfl⟩ := HO4.out.form
        go_wp2_with fail
        go_loopw [12] (fun i wr => ∃ k : Nat, k ≤ W.length ∧ i = .int .i64 k ∧ wr.heap = w4.heap ∧ Below w.heap.size w wr) (fun i _ => W.length - (intOf i).toNat)
        case atStart => exact ⟨0, Nat.zero_le _, rfl, rfl, HB4.out⟩
        case round =>
          obtain ⟨k, hk, rfl, hh, hb⟩ := hrel
          have HH := Lib.hid hh; clear hh
          have HB5 := Lib.hid hb; clear hb
          by_cases hlt : k < W.length
          · have hi1 : (k : Int) < (W.length : Int) := by omega
            obtain ⟨g1, rfl, hc1⟩ := (HG4.out.heap HH.out).cell k hlt
            obtain ⟨g2, rfl, hc2⟩ := (HO4.out.heap HH.out).cell k hlt
            generalize bs (W.getD k []) = x at *
            go_wp2_with fail
            go_quiet (fail)
            go_wp2_with fail
            go_roundw
            case rel => exact ⟨k + 1, by omega, by go_num, HH.out, below_drewN HB5.out _⟩
            case measure => simp [intOf]; omega
          · go_wp2_with fail
            refine (carry HB5.out (awake_any _)).mono ?_; rintro e w6 ⟨rfl, hb6⟩
            go_wp2_with fail
            go_ret
            exact ⟨rfl, hb6⟩
end Go.Proofs.Ythoaogcndchjjaa
