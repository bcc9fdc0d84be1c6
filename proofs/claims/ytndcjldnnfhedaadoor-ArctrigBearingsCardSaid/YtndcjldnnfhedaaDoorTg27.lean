/- Trig: rays and small whole points, the runs 31 to 41. No run of the model here. -/
import Derived.Test.YtndcjldnnfhedaaDoorPlc
namespace Go.Proofs.YtndcjldnnfhedaaDoor.L6
set_option linter.unusedVariables false
set_option maxRecDepth 100000

def V31 : Tr := (5212497165320160988874711424400559875917195536870940221618, 3497410398841372103789715207530069946607599720331871829635, 9941417634708)
def V31L : List (Nat × Tr) := [(0, (6277101735386415192372682180417039930156315112189210626670, 1825934879419098190426879607517783934583183887410233, 6)), (16, (6275961114374285435457821461750721788467748178894603104190, 119659045860965058922211513799475060354806658914719408732, 20043180728)), (17, (6266838842032898097925000374182092386475573717440700752369, 358799560175655862619339524338108878866813392018608078091, 120259084316)), (18, (6221293966585281310036516254813549446044743238790993265872, 835169191076907416622522122028981611898299376645737250060, 561209060068)), (19, (6022205580148129533391480669521647037652733138027143318014, 1770606152374719895079959124868471314837897599285206585684, 2405181685876)), (20, (5212497165320160988874711424400559875917195536870940221618, 3497410398841372103789715207530069946607599720331871829635, 9941417634708))]
theorem v31_ok : ApT 2031617 V31 := by
  have := chain_ok V31L 0 _ ap_zero (by decide +kernel)
  rw [show (0 : Int) + chN V31L = 2031617 by decide +kernel, show chT V31L (2 ^ 192, 0, 0) = V31 by decide +kernel] at this
  exact this
theorem g31_0 : go V31 U0 = true := by decide +kernel
theorem g31_1 : go V31 U1 = true := by decide +kernel
theorem g31_2 : go V31 U2 = true := by decide +kernel
theorem g31_3 : go V31 U3 = true := by decide +kernel
theorem g31_4 : go V31 U4 = true := by decide +kernel
theorem g31_5 : go V31 U5 = true := by decide +kernel
theorem g31_6 : go V31 U6 = true := by decide +kernel
theorem g31_7 : go V31 U7 = true := by decide +kernel
theorem seg31 (n : Int) (h1 : 2031617 ≤ n) (h2 : n < 2097153) : Rt (cz n) (sz n) := seg_of v31_ok g31_0 g31_1 g31_2 g31_3 g31_4 g31_5 g31_6 g31_7 n h1 (by omega)
def V32 : Tr := (5144880655873561898845190851601029052687774296608889708251, 3596138099852744358992618634536154669982417468087401364288, 19902878450132)
theorem v32_ok : ApT 2097153 V32 := by
  have := ApT.mul v31_ok (pw_ok 16 (by omega)) (by decide +kernel)
  rw [show mulz V31 (pwL.getD 16 (0, 0, 0)) = V32 by decide +kernel] at this
  exact this
theorem g32_0 : go V32 U0 = true := by decide +kernel
theorem g32_1 : go V32 U1 = true := by decide +kernel
theorem g32_2 : go V32 U2 = true := by decide +kernel
theorem g32_3 : go V32 U3 = true := by decide +kernel
theorem g32_4 : go V32 U4 = true := by decide +kernel
theorem g32_5 : go V32 U5 = true := by decide +kernel
theorem g32_6 : go V32 U6 = true := by decide +kernel
theorem g32_7 : go V32 U7 = true := by decide +kernel
theorem seg32 (n : Int) (h1 : 2097153 ≤ n) (h2 : n < 2162689) : Rt (cz n) (sz n) := seg_of v32_ok g32_0 g32_1 g32_2 g32_3 g32_4 g32_5 g32_6 g32_7 n h1 (by omega)
def V33 : Tr := (5075394436439408180145874117062462590421641186336154857498, 3693558922090506119017756780975264741837357888914591729545, 39825800080980)
theorem v33_ok : ApT 2162689 V33 := by
  have := ApT.mul v32_ok (pw_ok 16 (by omega)) (by decide +kernel)
  rw [show mulz V32 (pwL.getD 16 (0, 0, 0)) = V33 by decide +kernel] at this
  exact this
theorem g33_0 : go V33 U0 = true := by decide +kernel
theorem g33_1 : go V33 U1 = true := by decide +kernel
theorem g33_2 : go V33 U2 = true := by decide +kernel
theorem g33_3 : go V33 U3 = true := by decide +kernel
theorem g33_4 : go V33 U4 = true := by decide +kernel
theorem g33_5 : go V33 U5 = true := by decide +kernel
theorem g33_6 : go V33 U6 = true := by decide +kernel
theorem g33_7 : go V33 U7 = true := by decide +kernel
theorem seg33 (n : Int) (h1 : 2162689 ≤ n) (h2 : n < 2228225) : Rt (cz n) (sz n) := seg_of v33_ok g33_0 g33_1 g33_2 g33_3 g33_4 g33_5 g33_6 g33_7 n h1 (by omega)
def V34 : Tr := (5004063759125020365067588181336709139712889503718554810228, 3789637461684962995441914185760384041065078251273645441439, 79671643342676)
theorem v34_ok : ApT 2228225 V34 := by
  have := ApT.mul v33_ok (pw_ok 16 (by omega)) (by decide +kernel)
  rw [show mulz V33 (pwL.getD 16 (0, 0, 0)) = V34 by decide +kernel] at this
  exact this
theorem g34_0 : go V34 U0 = true := by decide +kernel
theorem g34_1 : go V34 U1 = true := by decide +kernel
theorem g34_2 : go V34 U2 = true := by decide +kernel
theorem g34_3 : go V34 U3 = true := by decide +kernel
theorem g34_4 : go V34 U4 = true := by decide +kernel
theorem g34_5 : go V34 U5 = true := by decide +kernel
theorem g34_6 : go V34 U6 = true := by decide +kernel
theorem g34_7 : go V34 U7 = true := by decide +kernel
theorem seg34 (n : Int) (h1 : 2228225 ≤ n) (h2 : n < 2293761) : Rt (cz n) (sz n) := seg_of v34_ok g34_0 g34_1 g34_2 g34_3 g34_4 g34_5 g34_6 g34_7 n h1 (by omega)
def V35 : Tr := (4930914546335350935924040784673790240067676482281678422855, 3884338802567680176822946681038542858734576531079550458171, 159363329866068)
theorem v35_ok : ApT 2293761 V35 := by
  have := ApT.mul v34_ok (pw_ok 16 (by omega)) (by decide +kernel)
  rw [show mulz V34 (pwL.getD 16 (0, 0, 0)) = V35 by decide +kernel] at this
  exact this
theorem g35_0 : go V35 U0 = true := by decide +kernel
theorem g35_1 : go V35 U1 = true := by decide +kernel
theorem g35_2 : go V35 U2 = true := by decide +kernel
theorem g35_3 : go V35 U3 = true := by decide +kernel
theorem g35_4 : go V35 U4 = true := by decide +kernel
theorem g35_5 : go V35 U5 = true := by decide +kernel
theorem g35_6 : go V35 U6 = true := by decide +kernel
theorem g35_7 : go V35 U7 = true := by decide +kernel
theorem seg35 (n : Int) (h1 : 2293761 ≤ n) (h2 : n < 2359297) : Rt (cz n) (sz n) := seg_of v35_ok g35_0 g35_1 g35_2 g35_3 g35_4 g35_5 g35_6 g35_7 n h1 (by omega)
def V36 : Tr := (4855973381352478256410592424690492013803867841005106395371, 3977628529160391316057308850215184857938022717593847989466, 318746702912852)
theorem v36_ok : ApT 2359297 V36 := by
  have := ApT.mul v35_ok (pw_ok 16 (by omega)) (by decide +kernel)
  rw [show mulz V35 (pwL.getD 16 (0, 0, 0)) = V36 by decide +kernel] at this
  exact this
theorem g36_0 : go V36 U0 = true := by decide +kernel
theorem g36_1 : go V36 U1 = true := by decide +kernel
theorem g36_2 : go V36 U2 = true := by decide +kernel
theorem g36_3 : go V36 U3 = true := by decide +kernel
theorem g36_4 : go V36 U4 = true := by decide +kernel
theorem g36_5 : go V36 U5 = true := by decide +kernel
theorem g36_6 : go V36 U6 = true := by decide +kernel
theorem g36_7 : go V36 U7 = true := by decide +kernel
theorem seg36 (n : Int) (h1 : 2359297 ≤ n) (h2 : n < 2424833) : Rt (cz n) (sz n) := seg_of v36_ok g36_0 g36_1 g36_2 g36_3 g36_4 g36_5 g36_6 g36_7 n h1 (by omega)
def V37 : Tr := (4779267498674930002332239055571683341037678328500958154286, 4069472738882023419013069654416737432214220586872364197474, 637513449006420)
theorem v37_ok : ApT 2424833 V37 := by
  have := ApT.mul v36_ok (pw_ok 16 (by omega)) (by decide +kernel)
  rw [show mulz V36 (pwL.getD 16 (0, 0, 0)) = V37 by decide +kernel] at this
  exact this
theorem g37_0 : go V37 U0 = true := by decide +kernel
theorem g37_1 : go V37 U1 = true := by decide +kernel
theorem g37_2 : go V37 U2 = true := by decide +kernel
theorem g37_3 : go V37 U3 = true := by decide +kernel
theorem g37_4 : go V37 U4 = true := by decide +kernel
theorem g37_5 : go V37 U5 = true := by decide +kernel
theorem g37_6 : go V37 U6 = true := by decide +kernel
theorem g37_7 : go V37 U7 = true := by decide +kernel
theorem seg37 (n : Int) (h1 : 2424833 ≤ n) (h2 : n < 2490369) : Rt (cz n) (sz n) := seg_of v37_ok g37_0 g37_1 g37_2 g37_3 g37_4 g37_5 g37_6 g37_7 n h1 (by omega)
def V38 : Tr := (4700824774120346894900386427431595161683250387371148567557, 4159838054469292534867620555843564197616121061273338056025, 1275046941193556)
theorem v38_ok : ApT 2490369 V38 := by
  have := ApT.mul v37_ok (pw_ok 16 (by omega)) (by decide +kernel)
  rw [show mulz V37 (pwL.getD 16 (0, 0, 0)) = V38 by decide +kernel] at this
  exact this
theorem g38_0 : go V38 U0 = true := by decide +kernel
theorem g38_1 : go V38 U1 = true := by decide +kernel
theorem g38_2 : go V38 U2 = true := by decide +kernel
theorem g38_3 : go V38 U3 = true := by decide +kernel
theorem g38_4 : go V38 U4 = true := by decide +kernel
theorem g38_5 : go V38 U5 = true := by decide +kernel
theorem g38_6 : go V38 U6 = true := by decide +kernel
theorem g38_7 : go V38 U7 = true := by decide +kernel
theorem seg38 (n : Int) (h1 : 2490369 ≤ n) (h2 : n < 2555905) : Rt (cz n) (sz n) := seg_of v38_ok g38_0 g38_1 g38_2 g38_3 g38_4 g38_5 g38_6 g38_7 n h1 (by omega)
def V39 : Tr := (4620673714695083544708418693001653971204804888077123390561, 4248691636106392799137036670527743515392010353853064002723, 2550113925567828)
theorem v39_ok : ApT 2555905 V39 := by
  have := ApT.mul v38_ok (pw_ok 16 (by omega)) (by decide +kernel)
  rw [show mulz V38 (pwL.getD 16 (0, 0, 0)) = V39 by decide +kernel] at this
  exact this
theorem g39_0 : go V39 U0 = true := by decide +kernel
theorem g39_1 : go V39 U1 = true := by decide +kernel
theorem g39_2 : go V39 U2 = true := by decide +kernel
theorem g39_3 : go V39 U3 = true := by decide +kernel
theorem g39_4 : go V39 U4 = true := by decide +kernel
theorem g39_5 : go V39 U5 = true := by decide +kernel
theorem g39_6 : go V39 U6 = true := by decide +kernel
theorem g39_7 : go V39 U7 = true := by decide +kernel
theorem seg39 (n : Int) (h1 : 2555905 ≤ n) (h2 : n < 2621441) : Rt (cz n) (sz n) := seg_of v39_ok g39_0 g39_1 g39_2 g39_3 g39_4 g39_5 g39_6 g39_7 n h1 (by omega)
def V40 : Tr := (4538843448234427912284222458158588782288904720272351257273, 4336001193359370758099306255925847358778716748203439498584, 5100247894316372)
theorem v40_ok : ApT 2621441 V40 := by
  have := ApT.mul v39_ok (pw_ok 16 (by omega)) (by decide +kernel)
  rw [show mulz V39 (pwL.getD 16 (0, 0, 0)) = V40 by decide +kernel] at this
  exact this
theorem g40_0 : go V40 U0 = true := by decide +kernel
theorem g40_1 : go V40 U1 = true := by decide +kernel
theorem g40_2 : go V40 U2 = true := by decide +kernel
theorem g40_3 : go V40 U3 = true := by decide +kernel
theorem g40_4 : go V40 U4 = true := by decide +kernel
theorem g40_5 : go V40 U5 = true := by decide +kernel
theorem g40_6 : go V40 U6 = true := by decide +kernel
theorem g40_7 : go V40 U7 = true := by decide +kernel
theorem seg40 (n : Int) (h1 : 2621441 ≤ n) (h2 : n < 2686977) : Rt (cz n) (sz n) := seg_of v40_ok g40_0 g40_1 g40_2 g40_3 g40_4 g40_5 g40_6 g40_7 n h1 (by omega)
def V41 : Tr := (4522385118911778401620914413881530771426669741457972888882, 4353164255187228647728127689747841391223016922925088449990, 23091647086932)
def V41L : List (Nat × Tr) := [(5, (6277101735114735585615934484795934840279193279756735302792, 58429916140568172556159278265313431888531837201385938, 4780)), (6, (6277101732939174159998473944560811874329477199794638363679, 175289748401453472357809527483741288471086637540301601, 28676)), (7, (6277101722061367035681277031084430792130745170739845948467, 409009412700462573592889878982871637956734805310128754, 133812)), (9, (6277101591527682033988665722853351975592976442416702522324, 1343888060986039064678160872965557594211130116088004996, 1490964)), (12, (6277095534765692973768311260871745407620818042867072134320, 8822914432213631089128517308489991094322215644178858172, 81275604)), (13, (6277056687993733764547890075672091345119272285219122269600, 23780918981757172318837680377570731827944066475076297328, 475725908)), (19, (6200586099496391259675432333706150141534077191687042338455, 977107066357933941134424848616570111435758754717965986913, 1283715017556)), (21, (4522385118911778401620914413881530771426669741457972888882, 4353164255187228647728127689747841391223016922925088449990, 23091647086932))]
theorem v41_ok : ApT 2634464 V41 := by
  have := chain_ok V41L 0 _ ap_zero (by decide +kernel)
  rw [show (0 : Int) + chN V41L = 2634464 by decide +kernel, show chT V41L (2 ^ 192, 0, 0) = V41 by decide +kernel] at this
  exact this
theorem g41_0 : go V41 U0 = true := by decide +kernel
theorem g41_1 : go V41 U1 = true := by decide +kernel
theorem g41_2 : go V41 U2 = true := by decide +kernel
theorem g41_3 : go V41 U3 = true := by decide +kernel
theorem g41_4 : go V41 U4 = true := by decide +kernel
theorem g41_5 : go V41 U5 = true := by decide +kernel
theorem g41_6 : go V41 U6 = true := by decide +kernel
theorem g41_7 : go V41 U7 = true := by decide +kernel
theorem seg41 (n : Int) (h1 : 2634464 ≤ n) (h2 : n < 2700000) : Rt (cz n) (sz n) := seg_of v41_ok g41_0 g41_1 g41_2 g41_3 g41_4 g41_5 g41_6 g41_7 n h1 (by omega)
theorem segsT27 (n : Int) (h1 : 2031617 ≤ n) (h2 : n < 2700000) : Rt (cz n) (sz n) := by
  by_cases c31 : n < 2097153
  · exact seg31 n (by omega) (by omega)
  by_cases c32 : n < 2162689
  · exact seg32 n (by omega) (by omega)
  by_cases c33 : n < 2228225
  · exact seg33 n (by omega) (by omega)
  by_cases c34 : n < 2293761
  · exact seg34 n (by omega) (by omega)
  by_cases c35 : n < 2359297
  · exact seg35 n (by omega) (by omega)
  by_cases c36 : n < 2424833
  · exact seg36 n (by omega) (by omega)
  by_cases c37 : n < 2490369
  · exact seg37 n (by omega) (by omega)
  by_cases c38 : n < 2555905
  · exact seg38 n (by omega) (by omega)
  by_cases c39 : n < 2621441
  · exact seg39 n (by omega) (by omega)
  by_cases c40 : n < 2686977
  · exact seg40 n (by omega) (by omega)
  exact seg41 n (by omega) (by omega)
end Go.Proofs.YtndcjldnnfhedaaDoor.L6
