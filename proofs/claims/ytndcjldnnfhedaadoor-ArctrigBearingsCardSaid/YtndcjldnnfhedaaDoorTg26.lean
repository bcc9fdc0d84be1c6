/- Trig: rays and small whole points, the runs 21 to 30. No run of the model here. -/
import Derived.Test.YtndcjldnnfhedaaDoorPlc
namespace Go.Proofs.YtndcjldnnfhedaaDoor.L6
set_option linter.unusedVariables false
set_option maxRecDepth 100000

def V21 : Tr := (5780769629454589539169284987677483173521126666423381880615, 2446366425450187290010715128685395367998974373498982877184, 5852608768740)
def V21L : List (Nat × Tr) := [(0, (6277101735386415192372682180417039930156315112189210626670, 1825934879419098190426879607517783934583183887410233, 6)), (16, (6275961114374285435457821461750721788467748178894603104190, 119659045860965058922211513799475060354806658914719408732, 20043180728)), (18, (6248607626322258774578285225062213085271715264098293289399, 597418553998606627996200012739839313494297175729844170205, 360777252892)), (20, (5780769629454589539169284987677483173521126666423381880615, 2446366425450187290010715128685395367998974373498982877184, 5852608768740))]
theorem v21_ok : ApT 1376257 V21 := by
  have := chain_ok V21L 0 _ ap_zero (by decide +kernel)
  rw [show (0 : Int) + chN V21L = 1376257 by decide +kernel, show chT V21L (2 ^ 192, 0, 0) = V21 by decide +kernel] at this
  exact this
theorem g21_0 : go V21 U0 = true := by decide +kernel
theorem g21_1 : go V21 U1 = true := by decide +kernel
theorem g21_2 : go V21 U2 = true := by decide +kernel
theorem g21_3 : go V21 U3 = true := by decide +kernel
theorem g21_4 : go V21 U4 = true := by decide +kernel
theorem g21_5 : go V21 U5 = true := by decide +kernel
theorem g21_6 : go V21 U6 = true := by decide +kernel
theorem g21_7 : go V21 U7 = true := by decide +kernel
theorem seg21 (n : Int) (h1 : 1376257 ≤ n) (h2 : n < 1441793) : Rt (cz n) (sz n) := seg_of v21_ok g21_0 g21_1 g21_2 g21_3 g21_4 g21_5 g21_6 g21_7 n h1 (by omega)
def V22 : Tr := (5733085382024077434332715180693720599526362934248720084598, 2556117798305922620583185476866228439423738444491797385908, 11725260718196)
theorem v22_ok : ApT 1441793 V22 := by
  have := ApT.mul v21_ok (pw_ok 16 (by omega)) (by decide +kernel)
  rw [show mulz V21 (pwL.getD 16 (0, 0, 0)) = V22 by decide +kernel] at this
  exact this
theorem g22_0 : go V22 U0 = true := by decide +kernel
theorem g22_1 : go V22 U1 = true := by decide +kernel
theorem g22_2 : go V22 U2 = true := by decide +kernel
theorem g22_3 : go V22 U3 = true := by decide +kernel
theorem g22_4 : go V22 U4 = true := by decide +kernel
theorem g22_5 : go V22 U5 = true := by decide +kernel
theorem g22_6 : go V22 U6 = true := by decide +kernel
theorem g22_7 : go V22 U7 = true := by decide +kernel
theorem seg22 (n : Int) (h1 : 1441793 ≤ n) (h2 : n < 1507329) : Rt (cz n) (sz n) := seg_of v22_ok g22_0 g22_1 g22_2 g22_3 g22_4 g22_5 g22_6 g22_7 n h1 (by omega)
def V23 : Tr := (5683317664107998969757304398192145088003519782604592515800, 2664940247966636382767273856186569760708871291906035969621, 23470564617108)
theorem v23_ok : ApT 1507329 V23 := by
  have := ApT.mul v22_ok (pw_ok 16 (by omega)) (by decide +kernel)
  rw [show mulz V22 (pwL.getD 16 (0, 0, 0)) = V23 by decide +kernel] at this
  exact this
theorem g23_0 : go V23 U0 = true := by decide +kernel
theorem g23_1 : go V23 U1 = true := by decide +kernel
theorem g23_2 : go V23 U2 = true := by decide +kernel
theorem g23_3 : go V23 U3 = true := by decide +kernel
theorem g23_4 : go V23 U4 = true := by decide +kernel
theorem g23_5 : go V23 U5 = true := by decide +kernel
theorem g23_6 : go V23 U6 = true := by decide +kernel
theorem g23_7 : go V23 U7 = true := by decide +kernel
theorem seg23 (n : Int) (h1 : 1507329 ≤ n) (h2 : n < 1572865) : Rt (cz n) (sz n) := seg_of v23_ok g23_0 g23_1 g23_2 g23_3 g23_4 g23_5 g23_6 g23_7 n h1 (by omega)
def V24 : Tr := (5631484561878895244736064522877164963312182775474853318650, 2772794227077470400504706082721589550270719455192684722990, 46961172414932)
theorem v24_ok : ApT 1572865 V24 := by
  have := ApT.mul v23_ok (pw_ok 16 (by omega)) (by decide +kernel)
  rw [show mulz V23 (pwL.getD 16 (0, 0, 0)) = V24 by decide +kernel] at this
  exact this
theorem g24_0 : go V24 U0 = true := by decide +kernel
theorem g24_1 : go V24 U1 = true := by decide +kernel
theorem g24_2 : go V24 U2 = true := by decide +kernel
theorem g24_3 : go V24 U3 = true := by decide +kernel
theorem g24_4 : go V24 U4 = true := by decide +kernel
theorem g24_5 : go V24 U5 = true := by decide +kernel
theorem g24_6 : go V24 U6 = true := by decide +kernel
theorem g24_7 : go V24 U7 = true := by decide +kernel
theorem seg24 (n : Int) (h1 : 1572865 ≤ n) (h2 : n < 1638401) : Rt (cz n) (sz n) := seg_of v24_ok g24_0 g24_1 g24_2 g24_3 g24_4 g24_5 g24_6 g24_7 n h1 (by omega)
def V25 : Tr := (5577604912094196785176439126688542193249331477262662508754, 2879640540237125944341738402000700737155704570898104863317, 93942388010580)
theorem v25_ok : ApT 1638401 V25 := by
  have := ApT.mul v24_ok (pw_ok 16 (by omega)) (by decide +kernel)
  rw [show mulz V24 (pwL.getD 16 (0, 0, 0)) = V25 by decide +kernel] at this
  exact this
theorem g25_0 : go V25 U0 = true := by decide +kernel
theorem g25_1 : go V25 U1 = true := by decide +kernel
theorem g25_2 : go V25 U2 = true := by decide +kernel
theorem g25_3 : go V25 U3 = true := by decide +kernel
theorem g25_4 : go V25 U4 = true := by decide +kernel
theorem g25_5 : go V25 U5 = true := by decide +kernel
theorem g25_6 : go V25 U6 = true := by decide +kernel
theorem g25_7 : go V25 U7 = true := by decide +kernel
theorem seg25 (n : Int) (h1 : 1638401 ≤ n) (h2 : n < 1703937) : Rt (cz n) (sz n) := seg_of v25_ok g25_0 g25_1 g25_2 g25_3 g25_4 g25_5 g25_6 g25_7 n h1 (by omega)
def V26 : Tr := (5521698295250724909770829978118517007079893748430315301022, 2985440358241932384563551274139975898418290847747175414478, 187904819201876)
theorem v26_ok : ApT 1703937 V26 := by
  have := ApT.mul v25_ok (pw_ok 16 (by omega)) (by decide +kernel)
  rw [show mulz V25 (pwL.getD 16 (0, 0, 0)) = V26 by decide +kernel] at this
  exact this
theorem g26_0 : go V26 U0 = true := by decide +kernel
theorem g26_1 : go V26 U1 = true := by decide +kernel
theorem g26_2 : go V26 U2 = true := by decide +kernel
theorem g26_3 : go V26 U3 = true := by decide +kernel
theorem g26_4 : go V26 U4 = true := by decide +kernel
theorem g26_5 : go V26 U5 = true := by decide +kernel
theorem g26_6 : go V26 U6 = true := by decide +kernel
theorem g26_7 : go V26 U7 = true := by decide +kernel
theorem seg26 (n : Int) (h1 : 1703937 ≤ n) (h2 : n < 1769473) : Rt (cz n) (sz n) := seg_of v26_ok g26_0 g26_1 g26_2 g26_3 g26_4 g26_5 g26_6 g26_7 n h1 (by omega)
def V27 : Tr := (5463785028468909476368180788487264455479928375360163027875, 3090155232196835330226680314618962387706753432142691426904, 375829681584468)
theorem v27_ok : ApT 1769473 V27 := by
  have := ApT.mul v26_ok (pw_ok 16 (by omega)) (by decide +kernel)
  rw [show mulz V26 (pwL.getD 16 (0, 0, 0)) = V27 by decide +kernel] at this
  exact this
theorem g27_0 : go V27 U0 = true := by decide +kernel
theorem g27_1 : go V27 U1 = true := by decide +kernel
theorem g27_2 : go V27 U2 = true := by decide +kernel
theorem g27_3 : go V27 U3 = true := by decide +kernel
theorem g27_4 : go V27 U4 = true := by decide +kernel
theorem g27_5 : go V27 U5 = true := by decide +kernel
theorem g27_6 : go V27 U6 = true := by decide +kernel
theorem g27_7 : go V27 U7 = true := by decide +kernel
theorem seg27 (n : Int) (h1 : 1769473 ≤ n) (h2 : n < 1835009) : Rt (cz n) (sz n) := seg_of v27_ok g27_0 g27_1 g27_2 g27_3 g27_4 g27_5 g27_6 g27_7 n h1 (by omega)
def V28 : Tr := (5403886158109308967296445415212829285719774384199036173174, 3193747107488176155456585368159127169334637035873646967557, 751679406349652)
theorem v28_ok : ApT 1835009 V28 := by
  have := ApT.mul v27_ok (pw_ok 16 (by omega)) (by decide +kernel)
  rw [show mulz V27 (pwL.getD 16 (0, 0, 0)) = V28 by decide +kernel] at this
  exact this
theorem g28_0 : go V28 U0 = true := by decide +kernel
theorem g28_1 : go V28 U1 = true := by decide +kernel
theorem g28_2 : go V28 U2 = true := by decide +kernel
theorem g28_3 : go V28 U3 = true := by decide +kernel
theorem g28_4 : go V28 U4 = true := by decide +kernel
theorem g28_5 : go V28 U5 = true := by decide +kernel
theorem g28_6 : go V28 U6 = true := by decide +kernel
theorem g28_7 : go V28 U7 = true := by decide +kernel
theorem seg28 (n : Int) (h1 : 1835009 ≤ n) (h2 : n < 1900545) : Rt (cz n) (sz n) := seg_of v28_ok g28_0 g28_1 g28_2 g28_3 g28_4 g28_5 g28_6 g28_7 n h1 (by omega)
def V29 : Tr := (5342023452124116156856290324278243147168364598589279061395, 3296178337613185041008722030989406792446337308718223640420, 1503378855880020)
theorem v29_ok : ApT 1900545 V29 := by
  have := ApT.mul v28_ok (pw_ok 16 (by omega)) (by decide +kernel)
  rw [show mulz V28 (pwL.getD 16 (0, 0, 0)) = V29 by decide +kernel] at this
  exact this
theorem g29_0 : go V29 U0 = true := by decide +kernel
theorem g29_1 : go V29 U1 = true := by decide +kernel
theorem g29_2 : go V29 U2 = true := by decide +kernel
theorem g29_3 : go V29 U3 = true := by decide +kernel
theorem g29_4 : go V29 U4 = true := by decide +kernel
theorem g29_5 : go V29 U5 = true := by decide +kernel
theorem g29_6 : go V29 U6 = true := by decide +kernel
theorem g29_7 : go V29 U7 = true := by decide +kernel
theorem seg29 (n : Int) (h1 : 1900545 ≤ n) (h2 : n < 1966081) : Rt (cz n) (sz n) := seg_of v29_ok g29_0 g29_1 g29_2 g29_3 g29_4 g29_5 g29_6 g29_7 n h1 (by omega)
def V30 : Tr := (5278219392146428913554838933005541117160668128160474118443, 3397411697861161731080999766612545929624244262375566273103, 3006777754940756)
theorem v30_ok : ApT 1966081 V30 := by
  have := ApT.mul v29_ok (pw_ok 16 (by omega)) (by decide +kernel)
  rw [show mulz V29 (pwL.getD 16 (0, 0, 0)) = V30 by decide +kernel] at this
  exact this
theorem g30_0 : go V30 U0 = true := by decide +kernel
theorem g30_1 : go V30 U1 = true := by decide +kernel
theorem g30_2 : go V30 U2 = true := by decide +kernel
theorem g30_3 : go V30 U3 = true := by decide +kernel
theorem g30_4 : go V30 U4 = true := by decide +kernel
theorem g30_5 : go V30 U5 = true := by decide +kernel
theorem g30_6 : go V30 U6 = true := by decide +kernel
theorem g30_7 : go V30 U7 = true := by decide +kernel
theorem seg30 (n : Int) (h1 : 1966081 ≤ n) (h2 : n < 2031617) : Rt (cz n) (sz n) := seg_of v30_ok g30_0 g30_1 g30_2 g30_3 g30_4 g30_5 g30_6 g30_7 n h1 (by omega)
theorem segsT26 (n : Int) (h1 : 1376257 ≤ n) (h2 : n < 2031617) : Rt (cz n) (sz n) := by
  by_cases c21 : n < 1441793
  · exact seg21 n (by omega) (by omega)
  by_cases c22 : n < 1507329
  · exact seg22 n (by omega) (by omega)
  by_cases c23 : n < 1572865
  · exact seg23 n (by omega) (by omega)
  by_cases c24 : n < 1638401
  · exact seg24 n (by omega) (by omega)
  by_cases c25 : n < 1703937
  · exact seg25 n (by omega) (by omega)
  by_cases c26 : n < 1769473
  · exact seg26 n (by omega) (by omega)
  by_cases c27 : n < 1835009
  · exact seg27 n (by omega) (by omega)
  by_cases c28 : n < 1900545
  · exact seg28 n (by omega) (by omega)
  by_cases c29 : n < 1966081
  · exact seg29 n (by omega) (by omega)
  exact seg30 n (by omega) (by omega)
end Go.Proofs.YtndcjldnnfhedaaDoor.L6
