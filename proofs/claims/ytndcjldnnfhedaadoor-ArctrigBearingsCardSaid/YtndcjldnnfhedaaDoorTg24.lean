/- Trig: rays and small whole points, the runs 0 to 10. No run of the model here. -/
import Derived.Test.YtndcjldnnfhedaaDoorPlc
namespace Go.Proofs.YtndcjldnnfhedaaDoor.L6
set_option linter.unusedVariables false
set_option maxRecDepth 100000

def V0 : Tr := (6277101735386415192372682180417039930156315112189210626670, 1825934879419098190426879607517783934583183887410233, 6)
def V0L : List (Nat × Tr) := [(0, (6277101735386415192372682180417039930156315112189210626670, 1825934879419098190426879607517783934583183887410233, 6))]
theorem v0_ok : ApT 1 V0 := by
  have := chain_ok V0L 0 _ ap_zero (by decide +kernel)
  rw [show (0 : Int) + chN V0L = 1 by decide +kernel, show chT V0L (2 ^ 192, 0, 0) = V0 by decide +kernel] at this
  exact this
theorem g0_0 : go V0 U0 = true := by decide +kernel
theorem g0_1 : go V0 U1 = true := by decide +kernel
theorem g0_2 : go V0 U2 = true := by decide +kernel
theorem g0_3 : go V0 U3 = true := by decide +kernel
theorem g0_4 : go V0 U4 = true := by decide +kernel
theorem g0_5 : go V0 U5 = true := by decide +kernel
theorem g0_6 : go V0 U6 = true := by decide +kernel
theorem g0_7 : go V0 U7 = true := by decide +kernel
theorem seg0 (n : Int) (h1 : 1 ≤ n) (h2 : n < 65537) : Rt (cz n) (sz n) := seg_of v0_ok g0_0 g0_1 g0_2 g0_3 g0_4 g0_5 g0_6 g0_7 n h1 (by omega)
def V1 : Tr := (6275961114374285435457821461750721788467748178894603104190, 119659045860965058922211513799475060354806658914719408732, 20043180728)
theorem v1_ok : ApT 65537 V1 := by
  have := ApT.mul v0_ok (pw_ok 16 (by omega)) (by decide +kernel)
  rw [show mulz V0 (pwL.getD 16 (0, 0, 0)) = V1 by decide +kernel] at this
  exact this
theorem g1_0 : go V1 U0 = true := by decide +kernel
theorem g1_1 : go V1 U1 = true := by decide +kernel
theorem g1_2 : go V1 U2 = true := by decide +kernel
theorem g1_3 : go V1 U3 = true := by decide +kernel
theorem g1_4 : go V1 U4 = true := by decide +kernel
theorem g1_5 : go V1 U5 = true := by decide +kernel
theorem g1_6 : go V1 U6 = true := by decide +kernel
theorem g1_7 : go V1 U7 = true := by decide +kernel
theorem seg1 (n : Int) (h1 : 65537 ≤ n) (h2 : n < 131073) : Rt (cz n) (sz n) := seg_of v1_ok g1_0 g1_1 g1_2 g1_3 g1_4 g1_5 g1_6 g1_7 n h1 (by omega)
def V2 : Tr := (6272539735466702087015235912152576641472119107068306083411, 239272780286003732974644061250495641041314982544297276686, 60129542172)
theorem v2_ok : ApT 131073 V2 := by
  have := ApT.mul v1_ok (pw_ok 16 (by omega)) (by decide +kernel)
  rw [show mulz V1 (pwL.getD 16 (0, 0, 0)) = V2 by decide +kernel] at this
  exact this
theorem g2_0 : go V2 U0 = true := by decide +kernel
theorem g2_1 : go V2 U1 = true := by decide +kernel
theorem g2_2 : go V2 U2 = true := by decide +kernel
theorem g2_3 : go V2 U3 = true := by decide +kernel
theorem g2_4 : go V2 U4 = true := by decide +kernel
theorem g2_5 : go V2 U5 = true := by decide +kernel
theorem g2_6 : go V2 U6 = true := by decide +kernel
theorem g2_7 : go V2 U7 = true := by decide +kernel
theorem seg2 (n : Int) (h1 : 131073 ≤ n) (h2 : n < 196609) : Rt (cz n) (sz n) := seg_of v2_ok g2_0 g2_1 g2_2 g2_3 g2_4 g2_5 g2_6 g2_7 n h1 (by omega)
def V3 : Tr := (6266838842032898097925000374182092386475573717440700752370, 358799560175655862619339524338108878866813392018608078090, 140302265060)
theorem v3_ok : ApT 196609 V3 := by
  have := ApT.mul v2_ok (pw_ok 16 (by omega)) (by decide +kernel)
  rw [show mulz V2 (pwL.getD 16 (0, 0, 0)) = V3 by decide +kernel] at this
  exact this
theorem g3_0 : go V3 U0 = true := by decide +kernel
theorem g3_1 : go V3 U1 = true := by decide +kernel
theorem g3_2 : go V3 U2 = true := by decide +kernel
theorem g3_3 : go V3 U3 = true := by decide +kernel
theorem g3_4 : go V3 U4 = true := by decide +kernel
theorem g3_5 : go V3 U5 = true := by decide +kernel
theorem g3_6 : go V3 U6 = true := by decide +kernel
theorem g3_7 : go V3 U7 = true := by decide +kernel
theorem seg3 (n : Int) (h1 : 196609 ≤ n) (h2 : n < 262145) : Rt (cz n) (sz n) := seg_of v3_ok g3_0 g3_1 g3_2 g3_3 g3_4 g3_5 g3_6 g3_7 n h1 (by omega)
def V4 : Tr := (6258860505844427391258640726473816268363734199484248197228, 478195948095880136545000706100607944687144570943559979280, 300647710836)
theorem v4_ok : ApT 262145 V4 := by
  have := ApT.mul v3_ok (pw_ok 16 (by omega)) (by decide +kernel)
  rw [show mulz V3 (pwL.getD 16 (0, 0, 0)) = V4 by decide +kernel] at this
  exact this
theorem g4_0 : go V4 U0 = true := by decide +kernel
theorem g4_1 : go V4 U1 = true := by decide +kernel
theorem g4_2 : go V4 U2 = true := by decide +kernel
theorem g4_3 : go V4 U3 = true := by decide +kernel
theorem g4_4 : go V4 U4 = true := by decide +kernel
theorem g4_5 : go V4 U5 = true := by decide +kernel
theorem g4_6 : go V4 U6 = true := by decide +kernel
theorem g4_7 : go V4 U7 = true := by decide +kernel
theorem seg4 (n : Int) (h1 : 262145 ≤ n) (h2 : n < 327681) : Rt (cz n) (sz n) := seg_of v4_ok g4_0 g4_1 g4_2 g4_3 g4_4 g4_5 g4_6 g4_7 n h1 (by omega)
def V5 : Tr := (6248607626322258774578285225062213085271715264098293289399, 597418553998606627996200012739839313494297175729844170205, 621338602388)
theorem v5_ok : ApT 327681 V5 := by
  have := ApT.mul v4_ok (pw_ok 16 (by omega)) (by decide +kernel)
  rw [show mulz V4 (pwL.getD 16 (0, 0, 0)) = V5 by decide +kernel] at this
  exact this
theorem g5_0 : go V5 U0 = true := by decide +kernel
theorem g5_1 : go V5 U1 = true := by decide +kernel
theorem g5_2 : go V5 U2 = true := by decide +kernel
theorem g5_3 : go V5 U3 = true := by decide +kernel
theorem g5_4 : go V5 U4 = true := by decide +kernel
theorem g5_5 : go V5 U5 = true := by decide +kernel
theorem g5_6 : go V5 U6 = true := by decide +kernel
theorem g5_7 : go V5 U7 = true := by decide +kernel
theorem seg5 (n : Int) (h1 : 327681 ≤ n) (h2 : n < 393217) : Rt (cz n) (sz n) := seg_of v5_ok g5_0 g5_1 g5_2 g5_3 g5_4 g5_5 g5_6 g5_7 n h1 (by omega)
def V6 : Tr := (6236083929483092345290802198979726942701884130064530265395, 716424050990189294094332957398165216645532309880667358775, 1262720385492)
theorem v6_ok : ApT 393217 V6 := by
  have := ApT.mul v5_ok (pw_ok 16 (by omega)) (by decide +kernel)
  rw [show mulz V5 (pwL.getD 16 (0, 0, 0)) = V6 by decide +kernel] at this
  exact this
theorem g6_0 : go V6 U0 = true := by decide +kernel
theorem g6_1 : go V6 U1 = true := by decide +kernel
theorem g6_2 : go V6 U2 = true := by decide +kernel
theorem g6_3 : go V6 U3 = true := by decide +kernel
theorem g6_4 : go V6 U4 = true := by decide +kernel
theorem g6_5 : go V6 U5 = true := by decide +kernel
theorem g6_6 : go V6 U6 = true := by decide +kernel
theorem g6_7 : go V6 U7 = true := by decide +kernel
theorem seg6 (n : Int) (h1 : 393217 ≤ n) (h2 : n < 458753) : Rt (cz n) (sz n) := seg_of v6_ok g6_0 g6_1 g6_2 g6_3 g6_4 g6_5 g6_6 g6_7 n h1 (by omega)
def V7 : Tr := (6221293966585281310036516254813549446044743238790993265873, 835169191076907416622522122028981611898299376645737250060, 2545483951700)
theorem v7_ok : ApT 458753 V7 := by
  have := ApT.mul v6_ok (pw_ok 16 (by omega)) (by decide +kernel)
  rw [show mulz V6 (pwL.getD 16 (0, 0, 0)) = V7 by decide +kernel] at this
  exact this
theorem g7_0 : go V7 U0 = true := by decide +kernel
theorem g7_1 : go V7 U1 = true := by decide +kernel
theorem g7_2 : go V7 U2 = true := by decide +kernel
theorem g7_3 : go V7 U3 = true := by decide +kernel
theorem g7_4 : go V7 U4 = true := by decide +kernel
theorem g7_5 : go V7 U5 = true := by decide +kernel
theorem g7_6 : go V7 U6 = true := by decide +kernel
theorem g7_7 : go V7 U7 = true := by decide +kernel
theorem seg7 (n : Int) (h1 : 458753 ≤ n) (h2 : n < 524289) : Rt (cz n) (sz n) := seg_of v7_ok g7_0 g7_1 g7_2 g7_3 g7_4 g7_5 g7_6 g7_7 n h1 (by omega)
def V8 : Tr := (6204243112474851306008716561072200664235701522496033989284, 953610820881793884332409321285980662231659392808571985605, 5111011084116)
theorem v8_ok : ApT 524289 V8 := by
  have := ApT.mul v7_ok (pw_ok 16 (by omega)) (by decide +kernel)
  rw [show mulz V7 (pwL.getD 16 (0, 0, 0)) = V8 by decide +kernel] at this
  exact this
theorem g8_0 : go V8 U0 = true := by decide +kernel
theorem g8_1 : go V8 U1 = true := by decide +kernel
theorem g8_2 : go V8 U2 = true := by decide +kernel
theorem g8_3 : go V8 U3 = true := by decide +kernel
theorem g8_4 : go V8 U4 = true := by decide +kernel
theorem g8_5 : go V8 U5 = true := by decide +kernel
theorem g8_6 : go V8 U6 = true := by decide +kernel
theorem g8_7 : go V8 U7 = true := by decide +kernel
theorem seg8 (n : Int) (h1 : 524289 ≤ n) (h2 : n < 589825) : Rt (cz n) (sz n) := seg_of v8_ok g8_0 g8_1 g8_2 g8_3 g8_4 g8_5 g8_6 g8_7 n h1 (by omega)
def V9 : Tr := (6184937563632218300186277782122546298532380792353202353742, 1071705897327078636992944055187881618135361991431076871791, 10242065348948)
theorem v9_ok : ApT 589825 V9 := by
  have := ApT.mul v8_ok (pw_ok 16 (by omega)) (by decide +kernel)
  rw [show mulz V8 (pwL.getD 16 (0, 0, 0)) = V9 by decide +kernel] at this
  exact this
theorem g9_0 : go V9 U0 = true := by decide +kernel
theorem g9_1 : go V9 U1 = true := by decide +kernel
theorem g9_2 : go V9 U2 = true := by decide +kernel
theorem g9_3 : go V9 U3 = true := by decide +kernel
theorem g9_4 : go V9 U4 = true := by decide +kernel
theorem g9_5 : go V9 U5 = true := by decide +kernel
theorem g9_6 : go V9 U6 = true := by decide +kernel
theorem g9_7 : go V9 U7 = true := by decide +kernel
theorem seg9 (n : Int) (h1 : 589825 ≤ n) (h2 : n < 655361) : Rt (cz n) (sz n) := seg_of v9_ok g9_0 g9_1 g9_2 g9_3 g9_4 g9_5 g9_6 g9_7 n h1 (by omega)
def V10 : Tr := (6163384335920314912109757727189878146526986137277821655745, 1189411503276548087254885311678833653207782254550081701534, 20504173878612)
theorem v10_ok : ApT 655361 V10 := by
  have := ApT.mul v9_ok (pw_ok 16 (by omega)) (by decide +kernel)
  rw [show mulz V9 (pwL.getD 16 (0, 0, 0)) = V10 by decide +kernel] at this
  exact this
theorem g10_0 : go V10 U0 = true := by decide +kernel
theorem g10_1 : go V10 U1 = true := by decide +kernel
theorem g10_2 : go V10 U2 = true := by decide +kernel
theorem g10_3 : go V10 U3 = true := by decide +kernel
theorem g10_4 : go V10 U4 = true := by decide +kernel
theorem g10_5 : go V10 U5 = true := by decide +kernel
theorem g10_6 : go V10 U6 = true := by decide +kernel
theorem g10_7 : go V10 U7 = true := by decide +kernel
theorem seg10 (n : Int) (h1 : 655361 ≤ n) (h2 : n < 720897) : Rt (cz n) (sz n) := seg_of v10_ok g10_0 g10_1 g10_2 g10_3 g10_4 g10_5 g10_6 g10_7 n h1 (by omega)
theorem segsT24 (n : Int) (h1 : 1 ≤ n) (h2 : n < 720897) : Rt (cz n) (sz n) := by
  by_cases c0 : n < 65537
  · exact seg0 n (by omega) (by omega)
  by_cases c1 : n < 131073
  · exact seg1 n (by omega) (by omega)
  by_cases c2 : n < 196609
  · exact seg2 n (by omega) (by omega)
  by_cases c3 : n < 262145
  · exact seg3 n (by omega) (by omega)
  by_cases c4 : n < 327681
  · exact seg4 n (by omega) (by omega)
  by_cases c5 : n < 393217
  · exact seg5 n (by omega) (by omega)
  by_cases c6 : n < 458753
  · exact seg6 n (by omega) (by omega)
  by_cases c7 : n < 524289
  · exact seg7 n (by omega) (by omega)
  by_cases c8 : n < 589825
  · exact seg8 n (by omega) (by omega)
  by_cases c9 : n < 655361
  · exact seg9 n (by omega) (by omega)
  exact seg10 n (by omega) (by omega)
end Go.Proofs.YtndcjldnnfhedaaDoor.L6
