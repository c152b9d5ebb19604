/- Dbf -/
import Derived.Test.YtgjokididdffhaaGreatDb2
namespace Go.Proofs.YtgjokididdffhaaGreat
open Go.RowKit Go.Deep
set_option linter.unusedVariables false
set_option maxRecDepth 100000 in
set_option maxHeartbeats 32000000 in
theorem kinds_yes_f (R : Nat) (a1 : Option Addr) (n1 c1 : Nat) (st : List Int) (a2 : Option Addr) (n2 c2 : Nat) (cols : List Int) (a : Option Addr) (n c : Nat) (xs : List Int) (b : Option Addr) (no co : Nat) (os : List Int) (shift : Int) (w : World) (h1 : SlI w a1 n1 c1 st) (h2 : SlI w a2 n2 c2 cols) (h3 : SlI w a n c xs) (h4 : SlI w b no co os) (S C : List Int) (Q : Nat → Bool)
    (hNear : ∀ W, SlI W a1 n1 c1 st → SlI W a2 n2 c2 cols → Calls Tryz.prog 25 #[patV (R : Int) (R : Int) a1 n1 c1 a2 n2 c2] W fun e w' => GqP W w' e R S C 0)
    (hThg : ∀ W, SlI W a1 n1 c1 st → SlI W a2 n2 c2 cols → Calls Tryz.prog 21 #[.int .i64 4, patV (R : Int) (R : Int) a1 n1 c1 a2 n2 c2] W fun e w' => TgQ W w' e R (R * R) Q)
    (hR8 : R ≤ 128) (hn8 : n ≤ 17592186044000) (hno : no ≤ 17592186044000) (ok : Bool) (hok : TruQ ok (IsOrd os R)) (S' C' : List Int) (hPa : ok = true → 0 < R → ∀ (x1 x2 x : Option Addr) (d1 d2 d : Nat) W, SlI W x1 n1 d1 st → SlI W x2 n2 d2 cols → SlI W x no d os → Calls Tryz.prog 23 #[.int .i64 4, patV (R : Int) (R : Int) x1 n1 d1 x2 n2 d2, .slice x no d, .int .i64 (((R - 1) / 2 : Nat) : Int)] W fun e w' => GpQ W w' e R R S' C') (l1 l5 l4 ln er : Int) (hL1 : LeP 1 (R : Int) (R : Int) n1 n2 st cols l1 er) (hL5 : LeP 5 (R : Int) (R : Int) n1 n2 st cols l5 er) (hL4 : LeP 4 (R : Int) (R : Int) n1 n2 st cols l4 er) (hLn : LeP 1 (R : Int) (R : Int) S.length C.length S C ln er) (hLs : (R ≤ 8 ∧ er = 0 ∧ l1 ≤ l5 ∧ l5 ≤ l4 ∧ l4 ≤ ln) ∨ (8 < R ∧ er = 1)) (hq4 : ChkP 4 (R : Int) (R : Int) S'.length C'.length n S' C' xs 0) (hq5 : ChkP 5 (R : Int) (R : Int) S'.length C'.length n S' C' xs 0) (ov : Int) (hOv : ov = 0 ∨ ov = 240) (hCO : ChkP 4 (R : Int) (R : Int) n1 n2 n st cols (xoL shift xs n) ov) (K1 : ChkP 1 (R : Int) (R : Int) n1 n2 n st cols xs 0) (K4 : ChkP 4 (R : Int) (R : Int) n1 n2 n st cols xs 0) (K5 : ChkP 5 (R : Int) (R : Int) n1 n2 n st cols xs 0) (Kf : ChkP 1 (R : Int) (R : Int) S.length C.length n S C xs 0)
    (hGr : ∀ (x1 x2 : Option Addr) (d1 d2 : Nat) W, SlI W x1 S.length d1 S → SlI W x2 C.length d2 C → SlI W b no co os → Calls Tryz.prog 18 #[.int .i64 1, patV (R : Int) (R : Int) x1 S.length d1 x2 C.length d2, .slice b no co] W fun e w' => ∃ (lv : Value) (zv ev : Int), e = .returned (.tuple #[lv, .int .i64 zv, .int .i64 ev]) ∧ Below W.heap.size W w' ∧ GrD R n1 n2 st cols w' lv ev) : Calls Tryz.prog 6 #[patV (R : Int) (R : Int) a1 n1 c1 a2 n2 c2, .slice a n c, .slice b no co, .int .i64 shift] w fun e w' => e = .returned (.bool true) ∧ Below w.heap.size w w' := by
  obtain ⟨wb, hwb⟩ : ∃ x, w.alloc (.cells #[.int .i64 (R : Int), .int .i64 (R : Int), .slice a1 n1 c1, .slice a2 n2 c2] 25) = x := ⟨_, rfl⟩
  have bb : Below w.heap.size w wb := by rw [← hwb]; exact (Below.refl _ _).alloc (Nat.le_refl _) _
  have hT0 := BoxP.made w #[.int .i64 (R : Int), .int .i64 (R : Int), .slice a1 n1 c1, .slice a2 n2 c2] 25
  rw [hwb] at hT0
  have HN := hide (show ∀ W, Below wb.heap.size wb W → BoxP W w.heap.size [.int .i64 (R : Int), .int .i64 (R : Int), .slice a1 n1 c1, .slice a2 n2 c2] ∧ SlI W a1 n1 c1 st ∧ SlI W a2 n2 c2 cols ∧ SlI W a n c xs ∧ SlI W b no co os ∧ Below w.heap.size w W from fun W b => ⟨hT0.below b, (h1.below bb).below b, (h2.below bb).below b, (h3.below bb).below b, (h4.below bb).below b, bb.trans (b.mono bb.size)⟩)
  have HNE := hide hNear
  have HTG := hide hThg
  have HC1 := hide K1
  have HC4 := hide K4
  have HC5 := hide K5
  have HCF := hide Kf
  have HGR := hide hGr
  have HCO := hide hCO
  have HOK := hide hok
  have HLS := hide hLs
  have HL1 := hide hL1
  have HL5 := hide hL5
  have HL4 := hide hL4
  have HLN := hide hLn
  have HQ4 := hide hq4
  have HQ5 := hide hq5
  have HPA := hide hPa
  clear hT0 bb h1 h2 h3 h4 hNear hThg K1 K4 K5 Kf hGr hCO hok hPa hq4 hq5 hLs hL1 hL5 hL4 hLn
  unfold patV
  go_enter Tryz.func6, Tryz.ntmps6
  go_wp2_with fail
  refine (calive_any wb).mono ?_
  rintro _ w1 ⟨rfl, b1⟩
  have hx := unhide HN w1 b1
  have p0 := (hx.1.all 0 _ rfl).1
  have p1 := (hx.1.all 1 _ rfl).1
  have p2 := (hx.1.all 2 _ rfl).1
  have p3 := (hx.1.all 3 _ rfl).1
  have KN := unhide HNE w1 hx.2.1 hx.2.2.1
  unfold patV at KN
  have KN := hide KN
  have HB1 := hide b1
  clear hx b1
  go_wp2_with fail
  refine (unhide KN).mono ?_
  rintro _ w2 ⟨y1, d1, y2, d2, rfl, g1, g2, b2, f1, f2⟩
  have HB2 := hide ((unhide HB1).trans (b2.mono (unhide HB1).size))
  clear KN f1 f2 b2 p0 p1 p2 p3
  try dsimp only
  obtain ⟨sl, hsl⟩ : ∃ l, S.length = l := ⟨_, rfl⟩
  obtain ⟨cl, hcl⟩ : ∃ l, C.length = l := ⟨_, rfl⟩
  rw [hsl] at g1
  rw [hcl] at g2
  have HSC := hide (And.intro hsl hcl)
  rw [hsl, hcl] at HCF HGR HLN ⊢
  clear hsl hcl
  repeat ((fail_if_success (with_reducible (show Code.wp _ _ _ _ (World.alloc w2 (Obj.cells #[_, _, _, .slice y2 _ d2] _))))); (first | go_values | go_skip | go_guarded | go_step | go_upon | go_back))
  have hNb := BoxP.made w2 #[.int .i64 (R : Int), .int .i64 (R : Int), .slice y1 sl d1, .slice y2 cl d2] 25
  have bn : Below w2.heap.size w2 (w2.alloc (.cells #[.int .i64 (R : Int), .int .i64 (R : Int), .slice y1 sl d1, .slice y2 cl d2] 25)) := (Below.refl _ _).alloc (Nat.le_refl _) _
  have hb3 := (unhide HB2).trans (bn.mono (unhide HB2).size)
  have g1 := g1.below bn
  have g2 := g2.below bn
  generalize w2.alloc (.cells #[.int .i64 (R : Int), .int .i64 (R : Int), .slice y1 sl d1, .slice y2 cl d2] 25) = w3 at *
  have HN3 := hide (show ∀ W, Below w3.heap.size w3 W → (BoxP W w.heap.size [.int .i64 (R : Int), .int .i64 (R : Int), .slice a1 n1 c1, .slice a2 n2 c2] ∧ SlI W a1 n1 c1 st ∧ SlI W a2 n2 c2 cols ∧ SlI W a n c xs ∧ SlI W b no co os ∧ Below w.heap.size w W) ∧ BoxP W w2.heap.size [.int .i64 (R : Int), .int .i64 (R : Int), .slice y1 sl d1, .slice y2 cl d2] ∧ SlI W y1 sl d1 S ∧ SlI W y2 cl d2 C from fun W b => ⟨unhide HN W (hb3.trans (b.mono hb3.size)), hNb.below b, g1.below b, g2.below b⟩)
  have hx := unhide HN3 w3 (Below.refl _ _)
  have p0 := (hx.1.1.all 0 _ rfl).1
  have p1 := (hx.1.1.all 1 _ rfl).1
  have p2 := (hx.1.1.all 2 _ rfl).1
  have p3 := (hx.1.1.all 3 _ rfl).1
  have KG := unhide HTG w3 hx.1.2.1 hx.1.2.2.1
  unfold patV at KG
  have KG := hide KG
  clear hx bn hNb hb3 g1 g2 HN HNE HTG HB1 HB2
  unfold TgQ grV at KG
  go_wp2_with fail
  refine (unhide KG).mono ?_
  rintro _ w4 ⟨gb, rfl, _, b4⟩
  have HB4 := hide b4
  clear KG b4 p0 p1 p2 p3
  obtain ⟨mm, hmm⟩ : ∃ x, R * R = x := ⟨_, rfl⟩
  rw [hmm]
  clear hmm
  go_wp2_with fail
  have bg : Below w4.heap.size w4 (w4.alloc (.cells #[.int .i64 (R : Int), .slice (some ⟨gb, 0, none⟩) mm mm] 45)) := (Below.refl _ _).alloc (Nat.le_refl _) _
  have HB5 := hide ((unhide HB4).trans (bg.mono (unhide HB4).size))
  clear bg HB4
  generalize w4.alloc (.cells #[.int .i64 (R : Int), .slice (some ⟨gb, 0, none⟩) mm mm] 45) = w5 at *
  refine (num12_any 0 w5).mono ?_
  rintro _ wn ⟨rfl, hwn⟩
  rw [hwn]
  clear hwn wn
  have hx := unhide HN3 w5 (unhide HB5)
  have p0 := (hx.1.1.all 0 _ rfl).1
  have p1 := (hx.1.1.all 1 _ rfl).1
  have p2 := (hx.1.1.all 2 _ rfl).1
  have p3 := (hx.1.1.all 3 _ rfl).1
  have KC := (unhide HC1) a1 a2 a c1 c2 c w5 hx.1.2.1 hx.1.2.2.1 hx.1.2.2.2.1
  unfold patV at KC
  have KC := hide KC
  clear hx
  go_wp2_with fail
  refine (unhide KC).mono ?_
  rintro _ w6 ⟨rfl, bq⟩
  have HB6 := hide ((unhide HB5).trans (bq.mono (unhide HB5).size))
  have hx := unhide HN3 w6 (unhide HB6)
  clear KC bq p0 p1 p2 p3
  have p0 := (hx.1.1.all 0 _ rfl).1
  have p1 := (hx.1.1.all 1 _ rfl).1
  have p2 := (hx.1.1.all 2 _ rfl).1
  have p3 := (hx.1.1.all 3 _ rfl).1
  have KC := (unhide HC4) a1 a2 a c1 c2 c w6 hx.1.2.1 hx.1.2.2.1 hx.1.2.2.2.1
  unfold patV at KC
  have KC := hide KC
  clear hx
  go_wp2_with fail
  refine (unhide KC).mono ?_
  rintro _ w7 ⟨rfl, bq⟩
  have HB7 := hide ((unhide HB6).trans (bq.mono (unhide HB6).size))
  have hx := unhide HN3 w7 (unhide HB7)
  clear KC bq p0 p1 p2 p3
  have p0 := (hx.1.1.all 0 _ rfl).1
  have p1 := (hx.1.1.all 1 _ rfl).1
  have p2 := (hx.1.1.all 2 _ rfl).1
  have p3 := (hx.1.1.all 3 _ rfl).1
  have KC := (unhide HC5) a1 a2 a c1 c2 c w7 hx.1.2.1 hx.1.2.2.1 hx.1.2.2.2.1
  unfold patV at KC
  have KC := hide KC
  clear hx
  go_wp2_with fail
  refine (unhide KC).mono ?_
  rintro _ w8 ⟨rfl, bq⟩
  have HB8 := hide ((unhide HB7).trans (bq.mono (unhide HB7).size))
  have hx := unhide HN3 w8 (unhide HB8)
  clear KC bq p0 p1 p2 p3
  have p0 := (hx.1.1.all 0 _ rfl).1
  have p1 := (hx.1.1.all 1 _ rfl).1
  have p2 := (hx.1.1.all 2 _ rfl).1
  have p3 := (hx.1.1.all 3 _ rfl).1
  have q0 := (hx.2.1.all 0 _ rfl).1
  have q1 := (hx.2.1.all 1 _ rfl).1
  have q2 := (hx.2.1.all 2 _ rfl).1
  have q3 := (hx.2.1.all 3 _ rfl).1
  have KC := (unhide HCF) y1 y2 a d1 d2 c w8 hx.2.2.1 hx.2.2.2 hx.1.2.2.2.1
  unfold patV at KC
  have KC := hide KC
  clear hx
  go_wp2_with fail
  refine (unhide KC).mono ?_
  rintro _ w9 ⟨rfl, b9⟩
  have HB9 := hide ((unhide HB8).trans (b9.mono (unhide HB8).size))
  have hx := unhide HN3 w9 (unhide HB9)
  clear KC b9 p0 p1 p2 p3 q0 q1 q2 q3
  have q0 := (hx.2.1.all 0 _ rfl).1
  have q1 := (hx.2.1.all 1 _ rfl).1
  have q2 := (hx.2.1.all 2 _ rfl).1
  have q3 := (hx.2.1.all 3 _ rfl).1
  have KR := (unhide HGR) y1 y2 d1 d2 w9 hx.2.2.1 hx.2.2.2 hx.1.2.2.2.2.1
  unfold patV at KR
  have KR := hide KR
  clear hx HB5 HB6 HB7 HB8 HGR
  go_wp2_with fail
  refine (unhide KR).mono ?_
  rintro _ wa ⟨lv, zv, ev, rfl, ba, hG⟩
  have HBA := hide ((unhide HB9).trans (ba.mono (unhide HB9).size))
  have HG := hide hG
  clear KR ba hG q0 q1 q2 q3
  have hx := unhide HN3 wa (unhide HBA)
  have p0 := (hx.1.1.all 0 _ rfl).1
  have p1 := (hx.1.1.all 1 _ rfl).1
  have p2 := (hx.1.1.all 2 _ rfl).1
  have p3 := (hx.1.1.all 3 _ rfl).1
  rcases (unhide HG) with hev | ⟨hev, al, kl, ls, hlv, g1, k1⟩
  focus
    subst hev
    clear HG
    go_wp2_with fail
    refine (num12_any 182 wa).mono ?_
    rintro _ wn ⟨rfl, hwn⟩
    rw [hwn]
    clear hwn wn
  rotate_left
  focus
    subst hev
    clear HG
    go_wp2_with fail
    refine (num12_any 0 wa).mono ?_
    rintro _ wn ⟨rfl, hwn⟩
    rw [hwn]
    clear hwn wn
    have KC := k1 a1 a2 al c1 c2 kl wa hx.1.2.1 hx.1.2.2.1 g1
    unfold patV at KC
    have KC := hide KC
    clear k1 g1 hx
    subst hlv
    go_wp2_with fail
    refine (unhide KC).mono ?_
    rintro _ wa ⟨rfl, bq⟩
    replace HBA := hide ((unhide HBA).trans (bq.mono (unhide HBA).size))
    have hx := unhide HN3 wa (unhide HBA)
    clear p0 p1 p2 p3 bq
    have p0 := (hx.1.1.all 0 _ rfl).1
    have p1 := (hx.1.1.all 1 _ rfl).1
    have p2 := (hx.1.1.all 2 _ rfl).1
    have p3 := (hx.1.1.all 3 _ rfl).1
  all_goals (
    go_wp2_with fail
    have hx := unhide HN3 wa (unhide HBA)
    have hln := hx.1.2.2.2.1.len
    clear hx
    obtain ⟨i64, hi, hz, hs, hb⟩ := info_parts Tryz.info_i64
    have HI := hide (And.intro hi (And.intro hz (And.intro hs hb)))
    have hone : ∀ y : Int, ∀ z ∈ [Value.int .i64 y], z.oneCell' = true := by intro y z hz; simp at hz; subst hz; rfl
    clear hi hz hs hb
    go_loopw [21, 20] (fun kv tv wr => ∃ k : Nat, k ≤ n ∧ kv = .int .i64 (k : Int) ∧ Hid (ThK wa wr wa.heap.size tv (xoL shift xs k))) (fun kv _ _ => n - (intOf kv).toNat)
    case atStart => exact ⟨0, Nat.zero_le _, rfl, hide ⟨World.ownsRow_nil _ _ _ _, Below.refl _ _, Nat.le_refl _⟩⟩
    case round =>
      obtain ⟨k, hk, rfl, HK⟩ := hrel
      have hbx := unhide HN3 wr ((unhide HBA).trans ((unhide HK).bel.mono (unhide HBA).size))
      have p0 := (hbx.1.1.all 0 _ rfl).1
      by_cases hlt : k < n
      · have hlt' : (k : Int) < (n : Int) := by omega
        obtain ⟨bX, oX, hax, hcX⟩ := hbx.1.2.2.2.1.at (by omega)
        subst hax
        have s1 := hcX k hlt
        obtain ⟨x, hx⟩ : ∃ x, xs.getD k 0 = x := ⟨_, rfl⟩
        rw [hx] at s1
        have HTH := hide (show xoL shift xs (k + 1) = xoL shift xs k ++ [xoV shift x] by rw [xoL_succ (by omega), hx])
        have hle := (unhide HK).le
        have htl : (xoL shift xs k).length = k := xoL_len (by omega)
        obtain ⟨tl, htl2⟩ : ∃ tl, xoL shift xs k = tl := ⟨_, rfl⟩
        rw [htl2] at HK HTH htl
        have hmx : tl.length + 1 ≤ maxLen := by unfold maxLen; omega
        have hby : (tl.length + 1) * 8 ≤ 140737488355328 := by omega
        clear htl2 htl hbx hx hcX
        go_wp2_with (at_builtin; refine wpList_append_lies _ rfl _ _ 23 rfl wa.heap.size 3 i64 (.int .i64 0) 1 8 Tryz.underlying23 (unhide HI).1 (unhide HI).2.1 (unhide HI).2.2.1 (unhide HI).2.2.2 rfl (by decide) _ tl.length (valsI tl) rfl ((unhide HK).own.alloc _) ⟨wr.heap.size, 0, none⟩ 1 1 [.int .i64 (bits .xor .i64 x (bits .and .i64 shift 15))] rfl rfl (World.news_of_block (alloc_block _ _)) (hone _) (by decide) hmx hby (by simp; omega) (wr.heap.size + 1) (by simp) ?_)
        intro g2 cap2 w11 hown hg2 hat hlt4
        have HK3 := hide ((unhide HK).app _ hown hg2)
        clear hown hg2 hat hlt4 s1
        go_wp2_with fail
        exact ⟨⟨k + 1, by omega, by (first | rfl | go_num), hide (by rw [unhide HTH]; exact unhide HK3)⟩, by simp [intOf]; omega⟩
      · obtain rfl : k = n := by omega
        have hlt' : ¬ (k : Int) < (k : Int) := by omega
        obtain ⟨aT, cT, htv, sT⟩ := own_slI (unhide HK).own
        rw [xoL_len (by omega)] at htv sT
        subst htv
        have HST := hide sT
        replace HBA := hide ((unhide HBA).trans ((unhide HK).bel.mono (unhide HBA).size))
        clear sT HK hln
        go_wp2_with fail
        refine (num12_any 0 wr).mono ?_
        rintro _ wn ⟨rfl, hwn⟩
        rw [hwn]
        clear hwn wn
        rcases hOv with rfl | rfl
        focus
          have hx := unhide HN3 wr (unhide HBA)
          have u0 := (hx.1.1.all 0 _ rfl).1
          have u1 := (hx.1.1.all 1 _ rfl).1
          have u2 := (hx.1.1.all 2 _ rfl).1
          have u3 := (hx.1.1.all 3 _ rfl).1
          have KC := (unhide HCO) a1 a2 aT c1 c2 cT wr hx.1.2.1 hx.1.2.2.1 (unhide HST)
          unfold patV at KC
          have KC := hide KC
          clear hx
          go_wp2_with fail
          refine (unhide KC).mono ?_
          rintro _ wc ⟨rfl, bq⟩
          replace HBA := hide ((unhide HBA).trans (bq.mono (unhide HBA).size))
          replace HST := hide ((unhide HST).below bq)
          clear KC bq u0 u1 u2 u3
        rotate_left
        focus
          have hx := unhide HN3 wr (unhide HBA)
          have u0 := (hx.1.1.all 0 _ rfl).1
          have u1 := (hx.1.1.all 1 _ rfl).1
          have u2 := (hx.1.1.all 2 _ rfl).1
          have u3 := (hx.1.1.all 3 _ rfl).1
          have KC := (unhide HCO) a1 a2 aT c1 c2 cT wr hx.1.2.1 hx.1.2.2.1 (unhide HST)
          unfold patV at KC
          have KC := hide KC
          clear hx
          go_wp2_with fail
          refine (unhide KC).mono ?_
          rintro _ wc ⟨rfl, bq⟩
          replace HBA := hide ((unhide HBA).trans (bq.mono (unhide HBA).size))
          replace HST := hide ((unhide HST).below bq)
          clear KC bq u0 u1 u2 u3
          have hx := unhide HN3 wc (unhide HBA)
          have u0 := (hx.1.1.all 0 _ rfl).1
          have u1 := (hx.1.1.all 1 _ rfl).1
          have u2 := (hx.1.1.all 2 _ rfl).1
          have u3 := (hx.1.1.all 3 _ rfl).1
          have KC := (unhide HCO) a1 a2 aT c1 c2 cT wc hx.1.2.1 hx.1.2.2.1 (unhide HST)
          unfold patV at KC
          have KC := hide KC
          clear hx
          go_wp2_with fail
          refine (unhide KC).mono ?_
          rintro _ wc ⟨rfl, bq⟩
          replace HBA := hide ((unhide HBA).trans (bq.mono (unhide HBA).size))
          replace HST := hide ((unhide HST).below bq)
          clear KC bq u0 u1 u2 u3
          go_wp2_with fail
          refine (num12_any 240 wc).mono ?_
          rintro _ wn ⟨rfl, hwn⟩
          rw [hwn]
          clear hwn wn
        all_goals (
          have hx := unhide HN3 wc (unhide HBA)
          have u0 := (hx.1.1.all 0 _ rfl).1
          have u1 := (hx.1.1.all 1 _ rfl).1
          have u2 := (hx.1.1.all 2 _ rfl).1
          have u3 := (hx.1.1.all 3 _ rfl).1
          have KO := hide (wisOrder_any b no co os R wc hx.1.2.2.2.2.1 (by omega) hR8 ok (unhide HOK))
          clear hx
          clear HST
          go_wp2_with fail
          refine (unhide KO).mono ?_
          rintro _ we ⟨rfl, bq⟩
          replace HBA := hide ((unhide HBA).trans (bq.mono (unhide HBA).size))
          clear KO bq u0 u1 u2 u3
          have hx := unhide HN3 we (unhide HBA)
          have u0 := (hx.1.1.all 0 _ rfl).1
          have u1 := (hx.1.1.all 1 _ rfl).1
          have u2 := (hx.1.1.all 2 _ rfl).1
          have u3 := (hx.1.1.all 3 _ rfl).1
          clear hx
          cases ok
          rotate_left
          focus
            by_cases hpos : 0 < R
            focus
              have hposI : (0 : Int) < (R : Int) := by omega
              have hx := unhide HN3 we (unhide HBA)
              have KP := (unhide HPA) rfl hpos a1 a2 b c1 c2 co we hx.1.2.1 hx.1.2.2.1 hx.1.2.2.2.2.1
              unfold patV at KP
              have hdv : (((R - 1) / 2 : Nat) : Int) = ((R : Int) - 1) / 2 := by omega
              rw [hdv] at KP
              have KP := hide KP
              clear hx hdv
              go_wp2_with fail
              refine (unhide KP).mono ?_
              rintro _ wf ⟨z1, e1, z2, e2, rfl, g3, g4, bq, f1, f2⟩
              have HBF := hide ((unhide HBA).trans (bq.mono (unhide HBA).size))
              clear KP f1 f2 bq u0 u1 u2 u3
              try dsimp only
              obtain ⟨sq, hsq⟩ : ∃ l, S'.length = l := ⟨_, rfl⟩
              obtain ⟨cq, hcq⟩ : ∃ l, C'.length = l := ⟨_, rfl⟩
              rw [hsq] at g3
              rw [hcq] at g4
              try rw [hsq, hcq] at HQ4
              try rw [hsq, hcq] at HQ5
              rw [hsq, hcq]
              clear hsq hcq
              repeat ((fail_if_success (with_reducible (show Code.wp _ _ _ _ (World.alloc wf (Obj.cells #[_, _, _, .slice z2 _ e2] _))))); (first | go_values | go_skip | go_guarded | go_step | go_upon | go_back))
              have hQb := BoxP.made wf #[.int .i64 (R : Int), .int .i64 (R : Int), .slice z1 sq e1, .slice z2 cq e2] 25
              have bn : Below wf.heap.size wf (wf.alloc (.cells #[.int .i64 (R : Int), .int .i64 (R : Int), .slice z1 sq e1, .slice z2 cq e2] 25)) := (Below.refl _ _).alloc (Nat.le_refl _) _
              replace HBA := hide ((unhide HBF).trans (bn.mono (unhide HBF).size))
              have HG3 := hide (g3.below bn)
              have HG4 := hide (g4.below bn)
              clear HBF g3 g4 bn
              generalize wf.alloc (.cells #[.int .i64 (R : Int), .int .i64 (R : Int), .slice z1 sq e1, .slice z2 cq e2] 25) = we at *
              have HQB := hide hQb
              clear hQb
              have hx := unhide HN3 we (unhide HBA)
              have v0 := ((unhide HQB).all 0 _ rfl).1
              have v1 := ((unhide HQB).all 1 _ rfl).1
              have v2 := ((unhide HQB).all 2 _ rfl).1
              have v3 := ((unhide HQB).all 3 _ rfl).1
              have KC := (unhide HQ4) z1 z2 a e1 e2 c we (unhide HG3) (unhide HG4) hx.1.2.2.2.1
              unfold patV at KC
              have KC := hide KC
              clear hx
              go_wp2_with fail
              refine (unhide KC).mono ?_
              rintro _ we ⟨rfl, bq⟩
              replace HBA := hide ((unhide HBA).trans (bq.mono (unhide HBA).size))
              replace HG3 := hide ((unhide HG3).below bq)
              replace HG4 := hide ((unhide HG4).below bq)
              replace HQB := hide ((unhide HQB).below bq)
              clear KC bq v0 v1 v2 v3
              have hx := unhide HN3 we (unhide HBA)
              have v0 := ((unhide HQB).all 0 _ rfl).1
              have v1 := ((unhide HQB).all 1 _ rfl).1
              have v2 := ((unhide HQB).all 2 _ rfl).1
              have v3 := ((unhide HQB).all 3 _ rfl).1
              have KC := (unhide HQ5) z1 z2 a e1 e2 c we (unhide HG3) (unhide HG4) hx.1.2.2.2.1
              unfold patV at KC
              have KC := hide KC
              clear hx
              go_wp2_with fail
              refine (unhide KC).mono ?_
              rintro _ we ⟨rfl, bq⟩
              replace HBA := hide ((unhide HBA).trans (bq.mono (unhide HBA).size))
              replace HG3 := hide ((unhide HG3).below bq)
              replace HG4 := hide ((unhide HG4).below bq)
              replace HQB := hide ((unhide HQB).below bq)
              clear KC bq v0 v1 v2 v3
            rotate_left
            have hposI : ¬ (0 : Int) < (R : Int) := by omega
          all_goals (
            have hx := unhide HN3 we (unhide HBA)
            have u0 := (hx.1.1.all 0 _ rfl).1
            have u1 := (hx.1.1.all 1 _ rfl).1
            have u2 := (hx.1.1.all 2 _ rfl).1
            have u3 := (hx.1.1.all 3 _ rfl).1
            have KL := (unhide HL1) a1 a2 c1 c2 we hx.1.2.1 hx.1.2.2.1
            unfold patV at KL
            have KL := hide KL
            clear hx
            go_wp2_with fail
            refine (unhide KL).mono ?_
            rintro _ wj ⟨rfl, bq⟩
            replace HBA := hide ((unhide HBA).trans (bq.mono (unhide HBA).size))
            clear KL bq u0 u1 u2 u3
            have hx := unhide HN3 wj (unhide HBA)
            have u0 := (hx.1.1.all 0 _ rfl).1
            have u1 := (hx.1.1.all 1 _ rfl).1
            have u2 := (hx.1.1.all 2 _ rfl).1
            have u3 := (hx.1.1.all 3 _ rfl).1
            have KL := (unhide HL5) a1 a2 c1 c2 wj hx.1.2.1 hx.1.2.2.1
            unfold patV at KL
            have KL := hide KL
            clear hx
            go_wp2_with fail
            refine (unhide KL).mono ?_
            rintro _ wk ⟨rfl, bq⟩
            replace HBA := hide ((unhide HBA).trans (bq.mono (unhide HBA).size))
            clear KL bq u0 u1 u2 u3
            have hx := unhide HN3 wk (unhide HBA)
            have u0 := (hx.1.1.all 0 _ rfl).1
            have u1 := (hx.1.1.all 1 _ rfl).1
            have u2 := (hx.1.1.all 2 _ rfl).1
            have u3 := (hx.1.1.all 3 _ rfl).1
            have KL := (unhide HL4) a1 a2 c1 c2 wk hx.1.2.1 hx.1.2.2.1
            unfold patV at KL
            have KL := hide KL
            clear hx
            go_wp2_with fail
            refine (unhide KL).mono ?_
            rintro _ wl ⟨rfl, bq⟩
            replace HBA := hide ((unhide HBA).trans (bq.mono (unhide HBA).size))
            clear KL bq u0 u1 u2 u3
            have hx := unhide HN3 wl (unhide HBA)
            have u0 := (hx.1.1.all 0 _ rfl).1
            have u1 := (hx.1.1.all 1 _ rfl).1
            have u2 := (hx.1.1.all 2 _ rfl).1
            have u3 := (hx.1.1.all 3 _ rfl).1
            have v0 := (hx.2.1.all 0 _ rfl).1
            have v1 := (hx.2.1.all 1 _ rfl).1
            have v2 := (hx.2.1.all 2 _ rfl).1
            have v3 := (hx.2.1.all 3 _ rfl).1
            have KL := (unhide HLN) y1 y2 d1 d2 wl hx.2.2.1 hx.2.2.2
            unfold patV at KL
            have KL := hide KL
            clear hx
            go_wp2_with fail
            refine (unhide KL).mono ?_
            rintro _ wm ⟨rfl, bq⟩
            replace HBA := hide ((unhide HBA).trans (bq.mono (unhide HBA).size))
            clear KL bq u0 u1 u2 u3 v0 v1 v2 v3
            have hx := unhide HN3 wm (unhide HBA)
            have u0 := (hx.1.1.all 0 _ rfl).1
            have u1 := (hx.1.1.all 1 _ rfl).1
            have u2 := (hx.1.1.all 2 _ rfl).1
            have u3 := (hx.1.1.all 3 _ rfl).1
            have HBZ := hide hx.1.2.2.2.2.2
            clear hx
            rcases (unhide HLS) with ⟨h8, her, m1, m2, m3⟩ | ⟨h8, her⟩
            · subst her
              have h8I : ¬ (8 : Int) < (R : Int) := by omega
              go_wp2_with fail
              refine (num12_any 0 wm).mono ?_
              rintro _ wn ⟨rfl, hwn⟩
              rw [hwn]
              clear hwn wn
              go_wp2_with fail
              refine (num12_any 0 wm).mono ?_
              rintro _ wn ⟨rfl, hwn⟩
              rw [hwn]
              clear hwn wn
              go_wp2_with fail
              refine (num12_any 0 wm).mono ?_
              rintro _ wn ⟨rfl, hwn⟩
              rw [hwn]
              clear hwn wn
              go_wp2_with fail
              refine (num12_any 0 wm).mono ?_
              rintro _ wn ⟨rfl, hwn⟩
              rw [hwn]
              clear hwn wn
              go_wp2_with fail
              try go_ret
              exact ⟨rfl, unhide HBZ⟩
            · first
              | (exfalso; omega)
              | (subst her
                 have h8I : (8 : Int) < (R : Int) := by omega
                 go_wp2_with fail
                 refine (num12_any 1 wm).mono ?_
                 rintro _ wn ⟨rfl, hwn⟩
                 rw [hwn]
                 clear hwn wn
                 go_wp2_with fail
                 refine (num12_any 1 wm).mono ?_
                 rintro _ wn ⟨rfl, hwn⟩
                 rw [hwn]
                 clear hwn wn
                 go_wp2_with fail
                 refine (num12_any 1 wm).mono ?_
                 rintro _ wn ⟨rfl, hwn⟩
                 rw [hwn]
                 clear hwn wn
                 go_wp2_with fail
                 refine (num12_any 1 wm).mono ?_
                 rintro _ wn ⟨rfl, hwn⟩
                 rw [hwn]
                 clear hwn wn
                 go_wp2_with fail
                 try go_ret
                 exact ⟨rfl, unhide HBZ⟩))))
end Go.Proofs.YtgjokididdffhaaGreat
