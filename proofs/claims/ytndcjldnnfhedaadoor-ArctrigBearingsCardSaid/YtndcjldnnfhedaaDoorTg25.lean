/- Trig: rays and small whole points, the runs 11 to 20. No run of the model here. -/
import Derived.Test.YtndcjldnnfhedaaDoorPlc
namespace Go.Proofs.YtndcjldnnfhedaaDoor.L6
set_option linter.unusedVariables false
set_option maxRecDepth 100000

def V11 : Tr := (6139591262034943517513149641431760312116522435301149512350, 1306684863132135903408641589388361417897300261019811041551, 1523281734372)
def V11L : List (Nat × Tr) := [(0, (6277101735386415192372682180417039930156315112189210626670, 1825934879419098190426879607517783934583183887410233, 6)), (16, (6275961114374285435457821461750721788467748178894603104190, 119659045860965058922211513799475060354806658914719408732, 20043180728)), (17, (6266838842032898097925000374182092386475573717440700752369, 358799560175655862619339524338108878866813392018608078091, 120259084316)), (19, (6139591262034943517513149641431760312116522435301149512350, 1306684863132135903408641589388361417897300261019811041551, 1523281734372))]
theorem v11_ok : ApT 720897 V11 := by
  have := chain_ok V11L 0 _ ap_zero (by decide +kernel)
  rw [show (0 : Int) + chN V11L = 720897 by decide +kernel, show chT V11L (2 ^ 192, 0, 0) = V11 by decide +kernel] at this
  exact this
theorem g11_0 : go V11 U0 = true := by decide +kernel
theorem g11_1 : go V11 U1 = true := by decide +kernel
theorem g11_2 : go V11 U2 = true := by decide +kernel
theorem g11_3 : go V11 U3 = true := by decide +kernel
theorem g11_4 : go V11 U4 = true := by decide +kernel
theorem g11_5 : go V11 U5 = true := by decide +kernel
theorem g11_6 : go V11 U6 = true := by decide +kernel
theorem g11_7 : go V11 U7 = true := by decide +kernel
theorem seg11 (n : Int) (h1 : 720897 ≤ n) (h2 : n < 786433) : Rt (cz n) (sz n) := seg_of v11_ok g11_0 g11_1 g11_2 g11_3 g11_4 g11_5 g11_6 g11_7 n h1 (by omega)
def V12 : Tr := (6113566988658282704404633116546116219486995780767771045797, 1423483358379077168973460541873302768500741185264047320339, 3066606649460)
theorem v12_ok : ApT 786433 V12 := by
  have := ApT.mul v11_ok (pw_ok 16 (by omega)) (by decide +kernel)
  rw [show mulz V11 (pwL.getD 16 (0, 0, 0)) = V12 by decide +kernel] at this
  exact this
theorem g12_0 : go V12 U0 = true := by decide +kernel
theorem g12_1 : go V12 U1 = true := by decide +kernel
theorem g12_2 : go V12 U2 = true := by decide +kernel
theorem g12_3 : go V12 U3 = true := by decide +kernel
theorem g12_4 : go V12 U4 = true := by decide +kernel
theorem g12_5 : go V12 U5 = true := by decide +kernel
theorem g12_6 : go V12 U6 = true := by decide +kernel
theorem g12_7 : go V12 U7 = true := by decide +kernel
theorem seg12 (n : Int) (h1 : 786433 ≤ n) (h2 : n < 851969) : Rt (cz n) (sz n) := seg_of v12_ok g12_0 g12_1 g12_2 g12_3 g12_4 g12_5 g12_6 g12_7 n h1 (by omega)
def V13 : Tr := (6085320973316581530743846545273840760413381235475370566233, 1539764543073976627728268304392451365724325447656895672188, 6153256479636)
theorem v13_ok : ApT 851969 V13 := by
  have := ApT.mul v12_ok (pw_ok 16 (by omega)) (by decide +kernel)
  rw [show mulz V12 (pwL.getD 16 (0, 0, 0)) = V13 by decide +kernel] at this
  exact this
theorem g13_0 : go V13 U0 = true := by decide +kernel
theorem g13_1 : go V13 U1 = true := by decide +kernel
theorem g13_2 : go V13 U2 = true := by decide +kernel
theorem g13_3 : go V13 U3 = true := by decide +kernel
theorem g13_4 : go V13 U4 = true := by decide +kernel
theorem g13_5 : go V13 U5 = true := by decide +kernel
theorem g13_6 : go V13 U6 = true := by decide +kernel
theorem g13_7 : go V13 U7 = true := by decide +kernel
theorem seg13 (n : Int) (h1 : 851969 ≤ n) (h2 : n < 917505) : Rt (cz n) (sz n) := seg_of v13_ok g13_0 g13_1 g13_2 g13_3 g13_4 g13_5 g13_6 g13_7 n h1 (by omega)
def V14 : Tr := (6054863480943183534486427132453285239213881001659807115542, 1655486159270162468485512949883285477083415579980205019674, 12326556139988)
theorem v14_ok : ApT 917505 V14 := by
  have := ApT.mul v13_ok (pw_ok 16 (by omega)) (by decide +kernel)
  rw [show mulz V13 (pwL.getD 16 (0, 0, 0)) = V14 by decide +kernel] at this
  exact this
theorem g14_0 : go V14 U0 = true := by decide +kernel
theorem g14_1 : go V14 U1 = true := by decide +kernel
theorem g14_2 : go V14 U2 = true := by decide +kernel
theorem g14_3 : go V14 U3 = true := by decide +kernel
theorem g14_4 : go V14 U4 = true := by decide +kernel
theorem g14_5 : go V14 U5 = true := by decide +kernel
theorem g14_6 : go V14 U6 = true := by decide +kernel
theorem g14_7 : go V14 U7 = true := by decide +kernel
theorem seg14 (n : Int) (h1 : 917505 ≤ n) (h2 : n < 983041) : Rt (cz n) (sz n) := seg_of v14_ok g14_0 g14_1 g14_2 g14_3 g14_4 g14_5 g14_6 g14_7 n h1 (by omega)
def V15 : Tr := (6022205580148129533391480669521647037652733138027143318014, 1770606152374719895079959124868471314837897599285206585685, 24673155460692)
theorem v15_ok : ApT 983041 V15 := by
  have := ApT.mul v14_ok (pw_ok 16 (by omega)) (by decide +kernel)
  rw [show mulz V14 (pwL.getD 16 (0, 0, 0)) = V15 by decide +kernel] at this
  exact this
theorem g15_0 : go V15 U0 = true := by decide +kernel
theorem g15_1 : go V15 U1 = true := by decide +kernel
theorem g15_2 : go V15 U2 = true := by decide +kernel
theorem g15_3 : go V15 U3 = true := by decide +kernel
theorem g15_4 : go V15 U4 = true := by decide +kernel
theorem g15_5 : go V15 U5 = true := by decide +kernel
theorem g15_6 : go V15 U6 = true := by decide +kernel
theorem g15_7 : go V15 U7 = true := by decide +kernel
theorem seg15 (n : Int) (h1 : 983041 ≤ n) (h2 : n < 1048577) : Rt (cz n) (sz n) := seg_of v15_ok g15_0 g15_1 g15_2 g15_3 g15_4 g15_5 g15_6 g15_7 n h1 (by omega)
def V16 : Tr := (5987359139195694884697716797361355744235256548555587425408, 1885082686431623555411932970358222886050263801809926271575, 49366354102100)
theorem v16_ok : ApT 1048577 V16 := by
  have := ApT.mul v15_ok (pw_ok 16 (by omega)) (by decide +kernel)
  rw [show mulz V15 (pwL.getD 16 (0, 0, 0)) = V16 by decide +kernel] at this
  exact this
theorem g16_0 : go V16 U0 = true := by decide +kernel
theorem g16_1 : go V16 U1 = true := by decide +kernel
theorem g16_2 : go V16 U2 = true := by decide +kernel
theorem g16_3 : go V16 U3 = true := by decide +kernel
theorem g16_4 : go V16 U4 = true := by decide +kernel
theorem g16_5 : go V16 U5 = true := by decide +kernel
theorem g16_6 : go V16 U6 = true := by decide +kernel
theorem g16_7 : go V16 U7 = true := by decide +kernel
theorem seg16 (n : Int) (h1 : 1048577 ≤ n) (h2 : n < 1114113) : Rt (cz n) (sz n) := seg_of v16_ok g16_0 g16_1 g16_2 g16_3 g16_4 g16_5 g16_6 g16_7 n h1 (by omega)
def V17 : Tr := (5950336821691323014817638520917030771303111650237969323470, 1998874159325414759926107894816235089844564692922399568197, 98752751384916)
theorem v17_ok : ApT 1114113 V17 := by
  have := ApT.mul v16_ok (pw_ok 16 (by omega)) (by decide +kernel)
  rw [show mulz V16 (pwL.getD 16 (0, 0, 0)) = V17 by decide +kernel] at this
  exact this
theorem g17_0 : go V17 U0 = true := by decide +kernel
theorem g17_1 : go V17 U1 = true := by decide +kernel
theorem g17_2 : go V17 U2 = true := by decide +kernel
theorem g17_3 : go V17 U3 = true := by decide +kernel
theorem g17_4 : go V17 U4 = true := by decide +kernel
theorem g17_5 : go V17 U5 = true := by decide +kernel
theorem g17_6 : go V17 U6 = true := by decide +kernel
theorem g17_7 : go V17 U7 = true := by decide +kernel
theorem seg17 (n : Int) (h1 : 1114113 ≤ n) (h2 : n < 1179649) : Rt (cz n) (sz n) := seg_of v17_ok g17_0 g17_1 g17_2 g17_3 g17_4 g17_5 g17_6 g17_7 n h1 (by omega)
def V18 : Tr := (5911152081979522638003870251741988209193777801518664414845, 2111939217899898294862570353843591747290198841073720165759, 197525545950548)
theorem v18_ok : ApT 1179649 V18 := by
  have := ApT.mul v17_ok (pw_ok 16 (by omega)) (by decide +kernel)
  rw [show mulz V17 (pwL.getD 16 (0, 0, 0)) = V18 by decide +kernel] at this
  exact this
theorem g18_0 : go V18 U0 = true := by decide +kernel
theorem g18_1 : go V18 U1 = true := by decide +kernel
theorem g18_2 : go V18 U2 = true := by decide +kernel
theorem g18_3 : go V18 U3 = true := by decide +kernel
theorem g18_4 : go V18 U4 = true := by decide +kernel
theorem g18_5 : go V18 U5 = true := by decide +kernel
theorem g18_6 : go V18 U6 = true := by decide +kernel
theorem g18_7 : go V18 U7 = true := by decide +kernel
theorem seg18 (n : Int) (h1 : 1179649 ≤ n) (h2 : n < 1245185) : Rt (cz n) (sz n) := seg_of v18_ok g18_0 g18_1 g18_2 g18_3 g18_4 g18_5 g18_6 g18_7 n h1 (by omega)
def V19 : Tr := (5869819160254401122127968064653212027538534120525781390080, 2224236772986364518493112874927869559201855658612709130097, 395071135081812)
theorem v19_ok : ApT 1245185 V19 := by
  have := ApT.mul v18_ok (pw_ok 16 (by omega)) (by decide +kernel)
  rw [show mulz V18 (pwL.getD 16 (0, 0, 0)) = V19 by decide +kernel] at this
  exact this
theorem g19_0 : go V19 U0 = true := by decide +kernel
theorem g19_1 : go V19 U1 = true := by decide +kernel
theorem g19_2 : go V19 U2 = true := by decide +kernel
theorem g19_3 : go V19 U3 = true := by decide +kernel
theorem g19_4 : go V19 U4 = true := by decide +kernel
theorem g19_5 : go V19 U5 = true := by decide +kernel
theorem g19_6 : go V19 U6 = true := by decide +kernel
theorem g19_7 : go V19 U7 = true := by decide +kernel
theorem seg19 (n : Int) (h1 : 1245185 ≤ n) (h2 : n < 1310721) : Rt (cz n) (sz n) := seg_of v19_ok g19_0 g19_1 g19_2 g19_3 g19_4 g19_5 g19_6 g19_7 n h1 (by omega)
def V20 : Tr := (5826353077384610891107406607223935537829966428280433560702, 2335726014335875308129269628667079209014275114550895215982, 790162313344340)
theorem v20_ok : ApT 1310721 V20 := by
  have := ApT.mul v19_ok (pw_ok 16 (by omega)) (by decide +kernel)
  rw [show mulz V19 (pwL.getD 16 (0, 0, 0)) = V20 by decide +kernel] at this
  exact this
theorem g20_0 : go V20 U0 = true := by decide +kernel
theorem g20_1 : go V20 U1 = true := by decide +kernel
theorem g20_2 : go V20 U2 = true := by decide +kernel
theorem g20_3 : go V20 U3 = true := by decide +kernel
theorem g20_4 : go V20 U4 = true := by decide +kernel
theorem g20_5 : go V20 U5 = true := by decide +kernel
theorem g20_6 : go V20 U6 = true := by decide +kernel
theorem g20_7 : go V20 U7 = true := by decide +kernel
theorem seg20 (n : Int) (h1 : 1310721 ≤ n) (h2 : n < 1376257) : Rt (cz n) (sz n) := seg_of v20_ok g20_0 g20_1 g20_2 g20_3 g20_4 g20_5 g20_6 g20_7 n h1 (by omega)
theorem segsT25 (n : Int) (h1 : 720897 ≤ n) (h2 : n < 1376257) : Rt (cz n) (sz n) := by
  by_cases c11 : n < 786433
  · exact seg11 n (by omega) (by omega)
  by_cases c12 : n < 851969
  · exact seg12 n (by omega) (by omega)
  by_cases c13 : n < 917505
  · exact seg13 n (by omega) (by omega)
  by_cases c14 : n < 983041
  · exact seg14 n (by omega) (by omega)
  by_cases c15 : n < 1048577
  · exact seg15 n (by omega) (by omega)
  by_cases c16 : n < 1114113
  · exact seg16 n (by omega) (by omega)
  by_cases c17 : n < 1179649
  · exact seg17 n (by omega) (by omega)
  by_cases c18 : n < 1245185
  · exact seg18 n (by omega) (by omega)
  by_cases c19 : n < 1310721
  · exact seg19 n (by omega) (by omega)
  exact seg20 n (by omega) (by omega)
end Go.Proofs.YtndcjldnnfhedaaDoor.L6
