import Derived.Test.YtkfmladhicapeaaGreatDoorY2
set_option maxRecDepth 100000
set_option maxHeartbeats 2000000
namespace Go.Proofs
open Go.Shelf
def CD:Go.Shelf.Ren:=⟨fun | 160=>198 | 232=>210 | 231=>209 | 227=>211 | 234=>213 | 233=>212 | 236=>215 | 235=>214 | 228=>219 | 271=>222 | 151=>221 | 197=>220 | 120=>225 | 152=>224 | 260=>223 | 137=>226 | 119=>227 | 224=>207 | 225=>206 | 217=>205 | 266=>217 | n=>n,fun | 9=>9 | 4=>4 | 3=>3 | 5=>5 | 117=>216 | 116=>215 | 0=>0 | 124=>219 | 21=>21 | 105=>225 | 46=>83 | 119=>229 | 139=>232 | 138=>231 | n=>n,fun | 3=>3 | 4=>4 | n=>n⟩
theorem DA:Go.Proofs.Lays.n160 Tryz.prog CD:={
 mixed:=by kernel_rfl
 f119:=Tryz.func227.trans (congrArg some (by kernel_rfl))
 f120:=Tryz.func225.trans (congrArg some (by kernel_rfl))
 f137:=Tryz.func226.trans (congrArg some (by kernel_rfl))
 f151:=Tryz.func221.trans (congrArg some (by kernel_rfl))
 f152:=Tryz.func224.trans (congrArg some (by kernel_rfl))
 f160:=Tryz.func198.trans (congrArg some (by kernel_rfl))
 f197:=Tryz.func220.trans (congrArg some (by kernel_rfl))
 f217:=Tryz.func205.trans (congrArg some (by kernel_rfl))
 f224:=Tryz.func207.trans (congrArg some (by kernel_rfl))
 f225:=Tryz.func206.trans (congrArg some (by kernel_rfl))
 f227:=Tryz.func211.trans (congrArg some (by kernel_rfl))
 f228:=Tryz.func219.trans (congrArg some (by kernel_rfl))
 f231:=Tryz.func209.trans (congrArg some (by kernel_rfl))
 f232:=Tryz.func210.trans (congrArg some (by kernel_rfl))
 f233:=Tryz.func212.trans (congrArg some (by kernel_rfl))
 f234:=Tryz.func213.trans (congrArg some (by kernel_rfl))
 f235:=Tryz.func214.trans (congrArg some (by kernel_rfl))
 f236:=Tryz.func215.trans (congrArg some (by kernel_rfl))
 f260:=Tryz.func223.trans (congrArg some (by kernel_rfl))
 f266:=Tryz.func217.trans (congrArg some (by kernel_rfl))
 f271:=Tryz.func222.trans (congrArg some (by kernel_rfl))
 t0:=Tryz.underlying0
 a0:=Tryz.isAgg0
 z0:=Tryz.sizeOf0
 v0:=Tryz.zeroValue0
 t3:=Tryz.underlying3
 a3:=Tryz.isAgg3
 z3:=Tryz.sizeOf3
 v3:=Tryz.zeroValue3
 t4:=Tryz.underlying4
 a4:=Tryz.isAgg4
 z4:=Tryz.sizeOf4
 v4:=Tryz.zeroValue4
 t5:=Tryz.underlying5
 a5:=Tryz.isAgg5
 z5:=Tryz.sizeOf5
 v5:=Tryz.zeroValue5
 t9:=Tryz.underlying9
 a9:=Tryz.isAgg9
 z9:=Tryz.sizeOf9
 v9:=Tryz.zeroValue9
 t21:=Tryz.underlying21
 a21:=Tryz.isAgg21
 z21:=Tryz.sizeOf21
 v21:=Tryz.zeroValue21
 t46:=Tryz.underlying83
 a46:=Tryz.isAgg83
 z46:=Tryz.sizeOf83
 v46:=Tryz.zeroValue83
 t105:=Tryz.underlying225
 a105:=Tryz.isAgg225
 z105:=Tryz.sizeOf225
 v105:=Tryz.zeroValue225
 t116:=Tryz.underlying215
 a116:=Tryz.isAgg215
 z116:=Tryz.sizeOf215
 t117:=Tryz.underlying216
 a117:=Tryz.isAgg216
 z117:=Tryz.sizeOf216
 v117:=Tryz.zeroValue216
 t119:=Tryz.underlying229
 a119:=Tryz.isAgg229
 z119:=Tryz.sizeOf229
 t124:=Tryz.underlying219
 a124:=Tryz.isAgg219
 z124:=Tryz.sizeOf219
 v124:=Tryz.zeroValue219
 t138:=Tryz.underlying231
 a138:=Tryz.isAgg231
 z138:=Tryz.sizeOf231
 v138:=Tryz.zeroValue231
 t139:=Tryz.underlying232
 a139:=Tryz.isAgg232
 z139:=Tryz.sizeOf232
 v139:=Tryz.zeroValue232
 g3:=by kernel_rfl
 g4:=by kernel_rfl }
open Go.RowKit in
theorem BR (s:ByteArray) (c:UInt8) (hc:c.toNat<128) (w:World) (hs:s.size<=9223372036854775807) :
 Calls Tryz.prog 198 #[.string s,.string ⟨#[c]⟩] w fun e w'=>e=.returned (.string ⟨(Lib.trimB s.data.toList c).toArray⟩)/\(w'=w\/w'=w.drew):=Any.strings_Trim_one DA s c hc w hs
def CF:Go.Shelf.Ren:=⟨fun | 106=>131 | 213=>159 | 265=>182 | n=>n,fun | 9=>9 | 3=>3 | n=>n,fun | n=>n⟩
theorem DJ:Go.Proofs.Lays.n106 Tryz.prog CF:={
 mixed:=by kernel_rfl
 f106:=Tryz.func131.trans (congrArg some (by kernel_rfl))
 f213:=Tryz.func159.trans (congrArg some (by kernel_rfl))
 f265:=Tryz.func182.trans (congrArg some (by kernel_rfl))
 t3:=Tryz.underlying3
 a3:=Tryz.isAgg3
 z3:=Tryz.sizeOf3
 v3:=Tryz.zeroValue3
 t9:=Tryz.underlying9
 a9:=Tryz.isAgg9
 z9:=Tryz.sizeOf9
 v9:=Tryz.zeroValue9 }
open Go.RowKit in
theorem BU (a b:ByteArray) (w:World) :
 Calls Tryz.prog 131 #[.string a,.string b] w fun e w'=>e=.returned (.int .i64 (Lib.compareBytes a.data.toList b.data.toList))/\w'=w:=Any.strings_Compare DJ a b w
def BV:Go.Shelf.Ren:=⟨fun | 316=>170 | n=>n,fun | 9=>9 | 3=>3 | 4=>4 | 37=>107 | 0=>0 | 127=>202 | 5=>5 | n=>n,fun | n=>n⟩
theorem CU:Go.Proofs.LaysM.n316 Tryz.prog BV:={
 mixed:=by kernel_rfl
 f316:=Tryz.func170.trans (congrArg some (by kernel_rfl))
 t0:=Tryz.underlying0
 a0:=Tryz.isAgg0
 z0:=Tryz.sizeOf0
 v0:=Tryz.zeroValue0
 t3:=Tryz.underlying3
 a3:=Tryz.isAgg3
 z3:=Tryz.sizeOf3
 v3:=Tryz.zeroValue3
 t4:=Tryz.underlying4
 a4:=Tryz.isAgg4
 z4:=Tryz.sizeOf4
 v4:=Tryz.zeroValue4
 t9:=Tryz.underlying9
 a9:=Tryz.isAgg9
 z9:=Tryz.sizeOf9
 v9:=Tryz.zeroValue9
 t37:=Tryz.underlying107
 a37:=Tryz.isAgg107
 z37:=Tryz.sizeOf107
 v37:=Tryz.zeroValue107
 t127:=Tryz.underlying202
 a127:=Tryz.isAgg202
 z127:=Tryz.sizeOf202
 v127:=Tryz.zeroValue202
 t5:=Tryz.underlying5
 a5:=Tryz.isAgg5
 z5:=Tryz.sizeOf5
 v5:=Tryz.zeroValue5
 i0:=by kernel_rfl
 i3:=by kernel_rfl
 i4:=by kernel_rfl
 i5:=by kernel_rfl
 i9:=by kernel_rfl
 i37:=by kernel_rfl
 i127:=by kernel_rfl }
open Go.RowKit in
theorem BJ (s:ByteArray) (w:World) (hlim:s.size<=281474976710656) :
 Calls Tryz.prog 170 #[.string s] w fun e w'=>e=.returned (.string s)/\Below w.heap.size w w':=Any.stringslite_Clone CU s w hlim
def CG:Go.Shelf.Ren:=⟨fun | 145=>151 | 220=>176 | 219=>197 | 217=>205 | 225=>206 | 224=>207 | 267=>208 | 266=>217 | 314=>218 | n=>n,fun | 9=>9 | 4=>4 | 59=>143 | 3=>3 | 5=>5 | 46=>83 | 146=>223 | 51=>101 | n=>n,fun | 1=>2 | n=>n⟩
theorem DK:Go.Proofs.Lays.n145 Tryz.prog CG:={
 mixed:=by kernel_rfl
 f145:=Tryz.func151.trans (congrArg some (by kernel_rfl))
 f217:=Tryz.func205.trans (congrArg some (by kernel_rfl))
 f219:=Tryz.func197.trans (congrArg some (by kernel_rfl))
 f220:=Tryz.func176.trans (congrArg some (by kernel_rfl))
 f224:=Tryz.func207.trans (congrArg some (by kernel_rfl))
 f225:=Tryz.func206.trans (congrArg some (by kernel_rfl))
 f266:=Tryz.func217.trans (congrArg some (by kernel_rfl))
 f267:=Tryz.func208.trans (congrArg some (by kernel_rfl))
 f314:=Tryz.func218.trans (congrArg some (by kernel_rfl))
 t3:=Tryz.underlying3
 a3:=Tryz.isAgg3
 z3:=Tryz.sizeOf3
 v3:=Tryz.zeroValue3
 t4:=Tryz.underlying4
 a4:=Tryz.isAgg4
 z4:=Tryz.sizeOf4
 v4:=Tryz.zeroValue4
 t5:=Tryz.underlying5
 a5:=Tryz.isAgg5
 z5:=Tryz.sizeOf5
 v5:=Tryz.zeroValue5
 t9:=Tryz.underlying9
 a9:=Tryz.isAgg9
 z9:=Tryz.sizeOf9
 v9:=Tryz.zeroValue9
 t46:=Tryz.underlying83
 a46:=Tryz.isAgg83
 z46:=Tryz.sizeOf83
 v46:=Tryz.zeroValue83
 t51:=Tryz.underlying101
 a51:=Tryz.isAgg101
 z51:=Tryz.sizeOf101
 v51:=Tryz.zeroValue101
 t59:=Tryz.underlying143
 a59:=Tryz.isAgg143
 z59:=Tryz.sizeOf143
 v59:=Tryz.zeroValue143
 t146:=Tryz.underlying223
 a146:=Tryz.isAgg223
 z146:=Tryz.sizeOf223
 v146:=Tryz.zeroValue223
 g1:=by kernel_rfl }
open Go.RowKit Go.Lib in
theorem CE (s sep:ByteArray) (m:Int) (w:World) (hs:s.size<4294967281) (hm:w.cell? ⟨2,0,none⟩=some (.int .i64 m)) :
 Calls Tryz.prog 151 #[.string s,.string sep] w fun e w'=>e=.returned (.tuple #[.string ⟨(Lib.cut s.data.toList sep.data.toList).1.toArray⟩,.string ⟨(Lib.cut s.data.toList sep.data.toList).2.1.toArray⟩,.bool (Lib.cut s.data.toList sep.data.toList).2.2])/\∃ n,w'=w.drewN n:=Any.strings_Cut DK s sep m w hs hm
def BX:Go.Shelf.Ren:=⟨fun | 145=>151 | 220=>176 | 219=>197 | 217=>205 | 225=>206 | 224=>207 | 267=>208 | 266=>217 | 314=>218 | n=>n,fun | 9=>9 | 4=>4 | 59=>143 | 3=>3 | 5=>5 | 46=>83 | 146=>223 | 51=>101 | n=>n,fun | 1=>2 | n=>n⟩
theorem CO:Go.Proofs.LaysM.n145 Tryz.prog BX:={
 mixed:=by kernel_rfl
 f145:=Tryz.func151.trans (congrArg some (by kernel_rfl))
 f217:=Tryz.func205.trans (congrArg some (by kernel_rfl))
 f219:=Tryz.func197.trans (congrArg some (by kernel_rfl))
 f220:=Tryz.func176.trans (congrArg some (by kernel_rfl))
 f224:=Tryz.func207.trans (congrArg some (by kernel_rfl))
 f225:=Tryz.func206.trans (congrArg some (by kernel_rfl))
 f266:=Tryz.func217.trans (congrArg some (by kernel_rfl))
 f267:=Tryz.func208.trans (congrArg some (by kernel_rfl))
 f314:=Tryz.func218.trans (congrArg some (by kernel_rfl))
 t3:=Tryz.underlying3
 a3:=Tryz.isAgg3
 z3:=Tryz.sizeOf3
 v3:=Tryz.zeroValue3
 t4:=Tryz.underlying4
 a4:=Tryz.isAgg4
 z4:=Tryz.sizeOf4
 v4:=Tryz.zeroValue4
 t5:=Tryz.underlying5
 a5:=Tryz.isAgg5
 z5:=Tryz.sizeOf5
 v5:=Tryz.zeroValue5
 t9:=Tryz.underlying9
 a9:=Tryz.isAgg9
 z9:=Tryz.sizeOf9
 v9:=Tryz.zeroValue9
 t46:=Tryz.underlying83
 a46:=Tryz.isAgg83
 z46:=Tryz.sizeOf83
 v46:=Tryz.zeroValue83
 t51:=Tryz.underlying101
 a51:=Tryz.isAgg101
 z51:=Tryz.sizeOf101
 v51:=Tryz.zeroValue101
 t59:=Tryz.underlying143
 a59:=Tryz.isAgg143
 z59:=Tryz.sizeOf143
 v59:=Tryz.zeroValue143
 t146:=Tryz.underlying223
 a146:=Tryz.isAgg223
 z146:=Tryz.sizeOf223
 v146:=Tryz.zeroValue223
 g1:=by kernel_rfl
 i3:=by kernel_rfl
 i4:=by kernel_rfl
 i5:=by kernel_rfl
 i9:=by kernel_rfl
 i46:=by kernel_rfl
 i51:=by kernel_rfl
 i59:=by kernel_rfl
 i146:=by kernel_rfl
 m1:=by kernel_rfl
 s1_3:=fun w h=>Go.Proofs.cell_of_shapedOpen_int (zero:=#[.int .i64 0]) (t:=3) h (of_decide_eq_true (by kernel_rfl)) (by kernel_rfl) rfl (by kernel_rfl) (by kernel_rfl) Tryz.underlying3 }
def CC:Go.Shelf.Ren:=⟨fun | 190=>140 | 125=>167 | 258=>166 | 128=>193 | 129=>194 | 302=>185 | 303=>186 | 304=>187 | 305=>188 | 306=>189 | 307=>190 | 308=>142 | 309=>191 | 310=>192 | 333=>200 | 329=>201 | 330=>202 | 334=>203 | 335=>204 | 336=>168 | 344=>216 | n=>n,fun | 31=>72 | 9=>9 | 3=>3 | 46=>83 | 0=>0 | 51=>101 | 53=>106 | 4=>4 | 183=>195 | 182=>194 | 131=>110 | 5=>5 | 218=>205 | 222=>209 | 228=>220 | 229=>221 | n=>n,fun | n=>n⟩
theorem DH:Go.Proofs.Lays.n190 Tryz.prog CC:={
 mixed:=by kernel_rfl
 f125:=Tryz.func167.trans (congrArg some (by kernel_rfl))
 f128:=Tryz.func193.trans (congrArg some (by kernel_rfl))
 f129:=Tryz.func194.trans (congrArg some (by kernel_rfl))
 f190:=Tryz.func140.trans (congrArg some (by kernel_rfl))
 f258:=Tryz.func166.trans (congrArg some (by kernel_rfl))
 f302:=Tryz.func185.trans (congrArg some (by kernel_rfl))
 f303:=Tryz.func186.trans (congrArg some (by kernel_rfl))
 f304:=Tryz.func187.trans (congrArg some (by kernel_rfl))
 f305:=Tryz.func188.trans (congrArg some (by kernel_rfl))
 f306:=Tryz.func189.trans (congrArg some (by kernel_rfl))
 f307:=Tryz.func190.trans (congrArg some (by kernel_rfl))
 f308:=Tryz.func142.trans (congrArg some (by kernel_rfl))
 f309:=Tryz.func191.trans (congrArg some (by kernel_rfl))
 f310:=Tryz.func192.trans (congrArg some (by kernel_rfl))
 f329:=Tryz.func201.trans (congrArg some (by kernel_rfl))
 f330:=Tryz.func202.trans (congrArg some (by kernel_rfl))
 f333:=Tryz.func200.trans (congrArg some (by kernel_rfl))
 f334:=Tryz.func203.trans (congrArg some (by kernel_rfl))
 f335:=Tryz.func204.trans (congrArg some (by kernel_rfl))
 f336:=Tryz.func168.trans (congrArg some (by kernel_rfl))
 f344:=Tryz.func216.trans (congrArg some (by kernel_rfl))
 t0:=Tryz.underlying0
 a0:=Tryz.isAgg0
 z0:=Tryz.sizeOf0
 v0:=Tryz.zeroValue0
 t3:=Tryz.underlying3
 a3:=Tryz.isAgg3
 z3:=Tryz.sizeOf3
 v3:=Tryz.zeroValue3
 t4:=Tryz.underlying4
 a4:=Tryz.isAgg4
 z4:=Tryz.sizeOf4
 v4:=Tryz.zeroValue4
 t5:=Tryz.underlying5
 a5:=Tryz.isAgg5
 z5:=Tryz.sizeOf5
 v5:=Tryz.zeroValue5
 t9:=Tryz.underlying9
 a9:=Tryz.isAgg9
 z9:=Tryz.sizeOf9
 v9:=Tryz.zeroValue9
 t31:=Tryz.underlying72
 a31:=Tryz.isAgg72
 z31:=Tryz.sizeOf72
 v31:=Tryz.zeroValue72
 t46:=Tryz.underlying83
 a46:=Tryz.isAgg83
 z46:=Tryz.sizeOf83
 v46:=Tryz.zeroValue83
 t51:=Tryz.underlying101
 a51:=Tryz.isAgg101
 z51:=Tryz.sizeOf101
 v51:=Tryz.zeroValue101
 t53:=Tryz.underlying106
 a53:=Tryz.isAgg106
 z53:=Tryz.sizeOf106
 v53:=Tryz.zeroValue106
 t131:=Tryz.underlying110
 a131:=Tryz.isAgg110
 z131:=Tryz.sizeOf110
 v131:=Tryz.zeroValue110
 t182:=Tryz.underlying194
 a182:=Tryz.isAgg194
 z182:=Tryz.sizeOf194
 v182:=Tryz.zeroValue194
 t183:=Tryz.underlying195
 a183:=Tryz.isAgg195
 z183:=Tryz.sizeOf195
 v183:=Tryz.zeroValue195
 t218:=Tryz.underlying205
 a218:=Tryz.isAgg205
 z218:=Tryz.sizeOf205
 v218:=Tryz.zeroValue205
 t222:=Tryz.underlying209
 a222:=Tryz.isAgg209
 z222:=Tryz.sizeOf209
 v222:=Tryz.zeroValue209
 t228:=Tryz.underlying220
 a228:=Tryz.isAgg220
 z228:=Tryz.sizeOf220
 v228:=Tryz.zeroValue220
 t229:=Tryz.underlying221
 a229:=Tryz.isAgg221
 z229:=Tryz.sizeOf221
 v229:=Tryz.zeroValue221 }
open Go.Sort Go.RowKit in
theorem BP (yS off cap:Nat) (ss:List (List UInt8)) (w:World) (hH:Holds encStr w yS off ss.toArray) (hblk:yS<w.heap.size) (hsz:ss.length<4611686018427387904) :
 Calls Tryz.prog 140 #[.slice (some ⟨yS,off,none⟩) ss.length cap] w fun e w' =>
  e=.returned (.tuple #[])/\∃ n os,w'=grow (putRow encStr (Sort.ahead w n) yS off (ss.mergeSort fun x y=>decide (x<=y)).toArray) os:=Any.slices_Sort_string DH yS off cap ss w hH hblk hsz
def CB:Go.Shelf.Ren:=⟨fun | 110=>132 | 109=>160 | n=>n,fun | 31=>72 | 9=>9 | 4=>4 | 3=>3 | 0=>0 | n=>n,fun | n=>n⟩
theorem CA:Go.Proofs.Lays.n110 Tryz.prog CB:={
 mixed:=by kernel_rfl
 f109:=Tryz.func160.trans (congrArg some (by kernel_rfl))
 f110:=Tryz.func132.trans (congrArg some (by kernel_rfl))
 t0:=Tryz.underlying0
 a0:=Tryz.isAgg0
 z0:=Tryz.sizeOf0
 v0:=Tryz.zeroValue0
 t3:=Tryz.underlying3
 a3:=Tryz.isAgg3
 z3:=Tryz.sizeOf3
 v3:=Tryz.zeroValue3
 t4:=Tryz.underlying4
 a4:=Tryz.isAgg4
 z4:=Tryz.sizeOf4
 v4:=Tryz.zeroValue4
 t9:=Tryz.underlying9
 a9:=Tryz.isAgg9
 z9:=Tryz.sizeOf9
 v9:=Tryz.zeroValue9
 t31:=Tryz.underlying72
 a31:=Tryz.isAgg72
 z31:=Tryz.sizeOf72
 v31:=Tryz.zeroValue72 }
open Go.Lib in
theorem BM (b off n c:Nat) (zs:List ByteArray) (x:ByteArray) (w:World) (hz:n<=zs.length) (hbig:n<=9223372036854775807) (hc:∀ j,j<zs.length->w.cell? ⟨b,off+j,none⟩=some (.string (zs.getD j ByteArray.empty))) :
 Calls Tryz.prog 132 #[.slice (some ⟨b,off,none⟩) n c,.string x] w fun e w'=>e=.returned (.bool (Lib.containsS (zs.take n) x))/\w'=w:=Any.slices_Contains_string CA b off n c zs x w hz hbig hc
open Go.Lib in
theorem BI (a:Option Addr) (c:Nat) (x:ByteArray) (w:World) :
 Calls Tryz.prog 132 #[.slice a 0 c,.string x] w fun e w'=>e=.returned (.bool false)/\w'=w:=Any.slices_Contains_string_empty CA a c x w
end Go.Proofs
namespace Go.Proofs.YtkfmladhicapeaaGreatDoor
open Go.RowKit Go.Shelf
attribute [local go_sem] Oper.semAt_some
structure Th where
 d:ByteArray
 t:ByteArray
 m:Bool
def aX:Th:=⟨ByteArray.empty,ByteArray.empty,false⟩
structure bO (W:World) (a:Option Addr) (len:Nat) (ts:List Th):Prop where
 len_eq:ts.length=len
 le:len<=3518437208883
 sizes:∀ x∈ts,x.d.size<=140737488351232/\x.t.size<=140737488351232
 cells:∃ b off,(0<len->a=some ⟨b,off,none⟩)/\∀ i,i<len->b<W.heap.size/\W.cell? ⟨b,off+i*3,none⟩=some (.string (ts.getD i aX).d) /\
  W.cell? ⟨b,off+i*3+1,none⟩=some (.string (ts.getD i aX).t)/\W.cell? ⟨b,off+i*3+2,none⟩=some (.bool (ts.getD i aX).m)
theorem bO.kept {W W':World} {a:Option Addr} {len:Nat} {ts:List Th} (h:bO W a len ts) (k:aB W W'):bO W' a len ts:=by
 obtain ⟨b,off,ha,hc⟩:=h.cells;exact ⟨h.len_eq,h.le,h.sizes,b,off,ha,fun i hi=>⟨EG (hc i hi).1 k.size,k.cell (hc i hi).1 (hc i hi).2.1,k.cell (hc i hi).1 (hc i hi).2.2.1,k.cell (hc i hi).1 (hc i hi).2.2.2⟩⟩
theorem bO.size {W:World} {a:Option Addr} {len:Nat} {ts:List Th} (h:bO W a len ts) (i:Nat) (hi:i<len):(ts.getD i aX).d.size<=140737488351232/\(ts.getD i aX).t.size<=140737488351232:=by
 exact Rg
theorem bO.at {W:World} {a:Option Addr} {l:Nat} {ts:List Th} (h:bO W a l ts) (hl:0<l):∃ b off,a=some ⟨b,off,none⟩/\∀ i,i<l->∀ w,aB W w ->
 w.cell? ⟨b,off+i*3,none⟩=some (.string (ts.getD i aX).d)/\w.cell? ⟨b,off+i*3+1,none⟩=some (.string (ts.getD i aX).t)/\w.cell? ⟨b,off+i*3+2,none⟩=some (.bool (ts.getD i aX).m):=by
 obtain ⟨b,off,ha,hc⟩:=h.cells;exact ⟨b,off,ha hl,fun i hi w kk=>⟨kk.cell (hc i hi).1 (hc i hi).2.1,kk.cell (hc i hi).1 (hc i hi).2.2.1,kk.cell (hc i hi).1 (hc i hi).2.2.2⟩⟩
def oC (a b:ByteArray):Int:=Lib.compareBytes a.data.toList b.data.toList
theorem zE:∀ a b:List UInt8,decide (Lib.compareBytes a b<0)=Op.bytesLess a b
 | [],[]=>by simp [Lib.compareBytes,Op.bytesLess]
 | [],_ :: _=>by simp [Lib.compareBytes,Op.bytesLess]
 | _ :: _,[]=>by simp [Lib.compareBytes,Op.bytesLess]
 | a :: x,b :: y=>by
  unfold Lib.compareBytes Op.bytesLess
  by_cases h:a<b
  . simp [h]
  . by_cases k:b<a
    . have GW:a≠b:=fun e=>by subst e;exact h k
      simp [h,k,GW]
    . have e:a=b:=by
       exact Sn
      subst e;rw [if_neg h,if_neg k];have:=zE x y
      simp [h,this]
theorem Ae:∀ a b:List UInt8,Lib.compareBytes a b=0↔a=b
 | [],[]=>by simp [Lib.compareBytes]
 | [],_ :: _=>by simp [Lib.compareBytes]
 | _ :: _,[]=>by simp [Lib.compareBytes]
 | a :: x,b :: y=>by
  unfold Lib.compareBytes
  by_cases h:a<b
  . have GW:a≠b:=fun e=>by subst e;exact absurd (UInt8.lt_iff_toNat_lt.1 h) (EJ _)
    simp [h,GW]
  . by_cases k:b<a
    . have GW:a≠b:=fun e=>by subst e;exact absurd (UInt8.lt_iff_toNat_lt.1 k) (EJ _)
      simp [h,k,GW]
    . have e:a=b:=by
       exact Sn
      subst e;rw [if_neg h,if_neg k,Ae x y]
      simp
theorem xV (a b:ByteArray):decide (oC a b<0)=cZ a b:=by
 unfold oC cZ;rw [zE,ByteArray.toList_eq,ByteArray.toList_eq]
theorem qI (a b:ByteArray):oC a b=0↔a=b:=by
 unfold oC;rw [Ae]
 constructor
 . intro h
   obtain ⟨⟨x⟩⟩:=a;obtain ⟨⟨y⟩⟩:=b
   simp at h
   rw [h]
 . rintro rfl;rfl
theorem xU (a b:ByteArray):-1<=oC a b/\oC a b<=1:=by
 unfold oC;generalize a.data.toList=x;generalize b.data.toList=y
 induction x generalizing y with
 | nil=>cases y <;> simp [Lib.compareBytes]
 | cons a x ih =>
  cases y with
  | nil=>simp [Lib.compareBytes]
  | cons b y =>
   unfold Lib.compareBytes
   split
   . simp
   . split
     . simp
     . exact ih y
theorem zO (a b:ByteArray) (w:World):Calls Tryz.prog 131 #[.string a,.string b] w fun e w'=>e=.returned (.int .i64 (oC a b))/\w=w' :=
 (BU a b w).mono fun _ _ h=>⟨h.1,h.2.symm⟩
theorem Bh (x:Th) (d:ByteArray) (w:World):Calls Tryz.prog 184 #[.agg (LT x.d x.t x.m),.string d] w fun e w'=>e=.returned (.int .i64 (oC x.d d))/\aB w w':=by
 have HB:=DX (EY w (LT x.d x.t x.m) 62);have HK:=DX ((EX w).alloc ((KT x.d x.t x.m)));go_enter Tryz.func184,Tryz.ntmps184;exact Li
def fZ (ts:List Th) (d:ByteArray):Nat:=(ts.takeWhile fun x=>cZ x.d d).length
def cY (ts:List Th):List ByteArray:=ts.map (·.d)
theorem gA (ts:List Th) (i:Nat):pQ (cY ts) i=(ts.getD i aX).d:=by
 unfold pQ cY;simp only [List.getD_eq_getElem?_getD,List.getElem?_map]
 cases ts[i]? <;> rfl
theorem uB {d:ByteArray}:∀ (ts:List Th) (k:Nat),k<=ts.length->(∀ i,i<k->cZ (ts.getD i aX).d d=true)->(k<ts.length->cZ (ts.getD k aX).d d=false)->fZ ts d=k
 | [],k,hk,_,_=>by simp at hk;subst hk;rfl
 | x :: r,0,_,_,h=>by
  have:=h (Nat.succ_pos _)
  simp [List.getD] at this
  unfold fZ;rw [List.takeWhile_cons,this];rfl
 | x :: r,k+1,hk,h1,h2=>by
  have h0:=h1 0 (Nat.succ_pos _)
  simp [List.getD] at h0
  have:=uB r k (by simpa using hk) (fun i hi=>by simpa [List.getD] using h1 (i+1) aE) (fun hk=>by simpa [List.getD] using h2 (by simpa using hk));unfold fZ at this ⊢;rw [List.takeWhile_cons,h0]
  simp [this]
def nH (ts:List Th) (d:ByteArray):Bool:=decide (fZ ts d<ts.length/\(ts.getD (fZ ts d) aX).d=d)
theorem Nj (a:Option Addr) (l cap:Nat) (ts:List Th) (d:ByteArray) (w:World) (h:bO w a l ts) (hr:gG (cY ts)=true) :
 Calls Tryz.prog 129 #[.slice a l cap,.string d,.func (.func 184) #[] #[]] w fun e w'=>e=.returned (.tuple #[.int .i64 (fZ ts d),.bool (nH ts d)])/\aB w w':=by
 have OH:=h.le;have HS:=DX h;have HL:=DX h.len_eq
 have HR:=DX (show ∀ j i,i<j->j<l->cZ (ts.getD i aX).d (ts.getD j aX).d=true from fun j i WH hj=>by
  have:=nN (show pS (cY ts) (cY ts).length=true from hr) j i WH (by unfold cY;rw [List.length_map,h.len_eq];exact hj)
  rwa [gA,gA] at this)
 clear h hr
 obtain ⟨K,hK⟩:∃ K,K=fZ ts d:=⟨_,rfl⟩
 obtain ⟨F,hF⟩:∃ F,F=nH ts d:=⟨_,rfl⟩
 rw [<- hK,<- hF];have SA:=DX hK;have LC:=DX (show F=decide (fZ ts d<l/\(ts.getD (fZ ts d) aX).d=d) by rw [hF];unfold nH;rw [HL.out]);clear hK hF;go_enter Tryz.func129,Tryz.ntmps129;go_wp2_with fail;go_loopw [9,10] (fun x y wr=>∃ lo hi:Nat,x=.int .i64 lo/\y=.int .i64 hi/\lo<=hi/\hi<=l/\Hid ((∀ q,q<lo->cZ (ts.getD q aX).d d=true)/\(∀ q,hi<=q->q<l->cZ (ts.getD q aX).d d=false))/\aB w wr) (fun x y _=>(intOf y).toNat - (intOf x).toNat)
 case atStart=>exact Ps
 case round =>
  obtain ⟨lo,hi,rfl,rfl,hlh,hhl,HI,IF⟩:=hrel;have HK:=DX IF;clear IF
  by_cases FV:lo<hi
  . have GU:decide (lo<hi)=true:=DZ FV
    obtain ⟨b,off,rfl,hc⟩:=HS.out.at aE;obtain ⟨c0,c1,c2⟩:=hc ((lo+hi) / 2) aE _ HK.out
    obtain ⟨x,hx⟩:∃ x,x=ts.getD ((lo+hi) / 2) aX:=⟨_,rfl⟩
    rw [<- hx] at c0 c1 c2;have HX:=DX hx;clear hc hx;have PB:=xV x.d d;have MU:=xU x.d d;have QI:=Bh x d;exact Vt
  . obtain rfl:lo=hi:=by omega
    have GU:decide (lo<lo)=false:=DY aE
    have OS:=DX (show K=lo by
     rw [SA.out]
     exact uB ts lo (by rw [HL.out];exact hhl) HI.out.1 (fun q=>HI.out.2 lo (EA _) (by rw [<- HL.out];exact q)))
    by_cases QK:lo<l
    . have JH:decide (lo<l)=true:=DZ QK
      obtain ⟨b,off,rfl,hc⟩:=HS.out.at aE;obtain ⟨c0,c1,c2⟩:=hc lo QK _ HK.out
      obtain ⟨x,hx⟩:∃ x,x=ts.getD lo aX:=⟨_,rfl⟩
      rw [<- hx] at c0 c1 c2;have HX:=DX hx;clear hc hx;have hcz:=qI x.d d;have QI:=Bh x d;exact Wp
    . exact Oh
theorem Ir (a:Option Addr) (l cap:Nat) (ts:List Th) (d:ByteArray) (w:World) (h:bO w a l ts) (hr:gG (cY ts)=true) :
 Calls Tryz.prog 164 #[.slice a l cap,.string d] w fun e w'=>e=.returned (.tuple #[.int .i64 (fZ ts d),.bool (nH ts d)])/\aB w w':=by
 have HC:=DX (Nj a l cap ts d w h hr);generalize fZ ts d=K at *;generalize nH ts d=F at *;go_enter Tryz.func164,Tryz.ntmps164;go_wp2_with fail
 refine HC.out.mono ?_
 rintro e w2 ⟨rfl,FX⟩;have FW:=DX FX;clear FX;go_wp2;go_ret2;exact ⟨rfl,FW.out⟩
end Go.Proofs.YtkfmladhicapeaaGreatDoor
namespace Go.Proofs.YtkfmladhicapeaaGreatDoor
open Go.RowKit Go.Shelf
structure dQ (base:Nat) (e:TypeId) (w w':World):Prop where
 os:w'.os=w.os
 tape:w'.tape=w.tape
 output:w'.output=w.output
 size:w.heap.size<=w'.heap.size
 block:∀ k,k<w.heap.size->(k<base\/∀ cs:Array Value,w.heap[k]?≠some (.cells cs e (0,0)))->w'.heap[k]?=w.heap[k]?
theorem dQ.refl (base:Nat) (e:TypeId) (w:World):dQ base e w w:=⟨rfl,rfl,rfl,EA _,fun _ _ _=>rfl⟩
theorem dQ.trans {base:Nat} {e:TypeId} {a b c:World} (h:dQ base e a b) (k:dQ base e b c):dQ base e a c :=
 ⟨k.os.trans h.os,k.tape.trans h.tape,k.output.trans h.output,EF h.size k.size,fun g hg hb=>by
  have h1:=h.block g hg hb;rw [<- h1]
  refine k.block g (EG hg h.size) ?_
  rcases hb with hb | hb
  . exact .inl hb
  . exact .inr (by rw [h1];exact hb)⟩
theorem dQ.of_kept {base:Nat} {e:TypeId} {a b:World} (h:aB a b):dQ base e a b :=
 ⟨Below.os h,Below.tape h,Below.output h,Below.size h,fun k hk _=>Below.block h k hk⟩
theorem dQ.alloc {base:Nat} {e:TypeId} {a b:World} (h:dQ base e a b) (o:Obj):dQ base e a (b.alloc o):=h.trans (.of_kept ((EX b).alloc o))
theorem dQ.drew {base:Nat} {e:TypeId} {a b:World} (h:dQ base e a b):dQ base e a b.drew:=h.trans (.of_kept (EX b).drew)
theorem dQ.of_grown {base:Nat} {e:TypeId} {s n:Nat} {v:Value} {xs:List Value} {a b:World} (ho:a.ownsRow base e s v n xs) (hg:a.grownBy b v.ownBlock):dQ base e a b:=by
 refine ⟨hg.os,hg.tape,hg.output,hg.size,fun k hk hb=>hg.block k hk fun hkv=>?_⟩;obtain ⟨_,⟨rfl,_⟩ | ⟨g,cap,cur,rfl,hgb,hc,_⟩⟩:=ho
 . cases hkv
 . have hkg:k=g:=by simpa [Value.ownBlock] using hkv
   subst hkg
   rcases hb with hb | hb
   . omega
   . exact hb cur hc
theorem dQ.at {base:Nat} {e:TypeId} {a b:World} (h:dQ base e a b) {g:Nat} {C:Array Value} {t:TypeId} (hb:aA a g C t) (GW:t≠e):aA b g C t:=by
 refine (h.block g hb.lt (.inr fun cs hc=>?_)).trans hb
 have h1:a.heap[g]?=some (.cells C t (0,0)):=hb
 rw [hc] at h1;simp only [Option.some.injEq,Obj.cells.injEq] at h1;exact GW h1.2.1.symm
theorem dQ.below {e:TypeId} {a b:World} {base:Nat} (h:dQ base e a b) (hb:base<=a.heap.size):Below base a b :=
 ⟨h.os,h.tape,h.output,h.size,fun k hk=>h.block k (EG hk hb) (.inl hk)⟩
theorem dQ.kept {e:TypeId} {w a:World} (h:dQ w.heap.size e w a):aB w a:=h.below (EA _)
theorem dQ.own {base base':Nat} {e e':TypeId} {a b:World} (h:dQ base e a b) (GW:e'≠e) {s n:Nat} {v:Value} {xs:List Value} (ho:a.ownsRow base' e' s v n xs):b.ownsRow base' e' s v n xs:=by
 obtain ⟨h1,h2 | ⟨g,cap,cur,hv,hb,hg,h3⟩⟩:=ho
 . exact ⟨h1,.inl h2⟩
 . have hb':aA b g cur e':=h.at (show aA a g cur e' from hg) GW
   exact ⟨h1,.inr ⟨g,cap,cur,hv,hb,hb',h3⟩⟩
theorem bA {w:World} {base base':Nat} {e:TypeId} {s n:Nat} {v:Value} {xs:List Value} (h:w.ownsRow base e s v n xs) (hb:base'<=base):w.ownsRow base' e s v n xs:=by
 obtain ⟨h1,h2 | ⟨g,cap,cur,hv,hg,h3⟩⟩:=h
 . exact ⟨h1,.inl h2⟩
 . exact ⟨h1,.inr ⟨g,cap,cur,hv,EF hb hg,h3⟩⟩
def bv (l:List UInt8):List Value:=l.map fun x=>Value.int .u8 (x.toNat:Int)
theorem pV (a b:List UInt8):bv (a++b)=bv a++bv b:=List.map_append
theorem Fs (a:List UInt8):(bv a).length=a.length:=List.length_map _
theorem DQ:(Tryz.prog.info? 5).map (fun i=>(i.zero,i.size,i.bytes))=some (some (.int .u8 0),1,1):=by kernel_rfl
theorem CK:(Tryz.prog.info? 3).map (fun i=>(i.zero,i.size,i.bytes))=some (some (.int .i64 0),1,8):=by kernel_rfl
theorem sU {w:World} {base n:Nat} {v:Value} {l:List UInt8} (h:w.ownsRow base 5 1 v n (bv l)) (hn:l.length=n) :
 (convert 107 9 v).run Tryz.prog w=.ok (.string ⟨l.toArray⟩) w:=by
 rcases h.2 with ⟨rfl,h0⟩ | ⟨g,cap,cur,rfl,hb,hg,hn',hm,hc,ht⟩
 . subst h0
   obtain rfl:l=[]:=List.length_eq_zero_iff.1 hn;rfl
 . subst hn
   refine run_convert_bytes_back w 107 9 5 ⟨g,0,none⟩ cap l EO EM EN (fun j hj=>?_)
   have e:(⟨g,0,none⟩:Addr).add j=⟨g,j,none⟩:=by unfold Addr.add;split <;> simp_all
   rw [e,h.cellAt j aE]
   simp [bv,hj]
theorem kC (w:World) (row:Option Nat):w.grownBy w row:=⟨rfl,rfl,rfl,EA _,fun _ _ _=>rfl⟩
theorem bE {a b c:World} {row:Option Nat} (h:a.grownBy b row) (k:b.grownBy c row):a.grownBy c row :=
 ⟨k.os.trans h.os,k.tape.trans h.tape,k.output.trans h.output,EF h.size k.size,fun g hg GW=>(k.block g (EG hg h.size) GW).trans (h.block g hg GW)⟩
theorem Mz {a b c:World} {row r2:Option Nat} (h:a.grownBy b row) (k:b.grownBy c r2) (hr:∀ g,r2=some g->a.heap.size<=g):a.grownBy c row :=
 ⟨k.os.trans h.os,k.tape.trans h.tape,k.output.trans h.output,EF h.size k.size,fun g hg GW=>(k.block g (EG hg h.size) (fun e=>by have:=hr g e.symm;omega)).trans (h.block g hg GW)⟩
theorem bN {a b:World} (h:aB a b) (row:Option Nat):a.grownBy b row:=⟨Below.os h,Below.tape h,Below.output h,Below.size h,fun k hk _=>Below.block h k hk⟩
theorem iE (w:World) (b i:Nat) (v:Value):w.grownBy (w.setCell ⟨b,i,none⟩ v) (some b) :=
 ⟨rfl,rfl,rfl,by simp,fun k _ GW=>Below.heap_setCell w ⟨b,i,none⟩ v k (fun e=>GW (by rw [e]))⟩
theorem aA.gr {w w':World} {b:Nat} {C:Array Value} {t:TypeId} {row:Option Nat} (h:aA w b C t) (g:w.grownBy w' row) (GW:some b≠row):aA w' b C t:=(g.block b h.lt GW).trans h
theorem fO {W a b:World} {row:Option Nat} (h:aB W a) (g:a.grownBy b row) (hr:∀ k,row=some k->W.heap.size<=k):aB W b:=Below.grown h g (Below.size h) hr
end Go.Proofs.YtkfmladhicapeaaGreatDoor
