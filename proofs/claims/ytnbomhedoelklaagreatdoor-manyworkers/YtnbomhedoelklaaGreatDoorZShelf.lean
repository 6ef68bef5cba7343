import Derived.Test.YtnbomhedoelklaaGreatDoorZT1
import Derived.Shelf.Slices.Cells
import Derived.Shelf.Slices.Clone
import Derived.Shelf.Slices.Empties
import Derived.Shelf.Slices.In.SortNone
import Derived.Shelf.Slices.Turned
import Derived.Shelf.SlicesE.IndexFunc
import Derived.Shelf.Sort.Plain
import Derived.Shelf.Strconv.Itoa4
import Derived.Shelf.Strconv.ParseIntPublic10
import Derived.Shelf.Strings.BuilderK
import Derived.Shelf.Strings.FieldsFuncAny
import Derived.Shelf.Strings.OnBuilder
import Derived.Shelf.Strings.Prefix
import Derived.Shelf.Strings.Shaped
namespace Go.Proofs.YtnbomhedoelklaaGreatDoor
open Go.RowKit Go.Proofs.Tryz
set_option maxRecDepth 99999
set_option maxHeartbeats 0
open Go.Shelf
def Tryz.lays169_ren:Go.Shelf.Ren:=⟨λ|169=>17|n=>n,λ|70=>51|9=>9|0=>0|72=>54|37=>52|127=>108|3=>3|5=>5|n=>n,λ|n=>n⟩
theorem Tryz.lays169:Go.Proofs.Lays.n169 prog Tryz.lays169_ren:=zzM
theorem Tryz.Builder_Extra_169:Builder.Extra prog Tryz.lays169_ren:=zzM
open Go.RowKit in
def Tryz.lays156_ren:Go.Shelf.Ren:=⟨λ|156=>86|165=>118|166=>15|169=>17|240=>60|241=>154|276=>96|277=>195|n=>n,λ|31=>22|9=>9|3=>3|4=>4|0=>0|20=>20|72=>54|76=>58|70=>51|37=>52|75=>24|127=>108|164=>64|5=>5|80=>61|n=>n,λ|n=>n⟩
theorem Tryz.lays156:Go.Proofs.Lays.n156 prog Tryz.lays156_ren:=zzM
theorem Tryz.Builder_Extra_156:Builder.Extra prog Tryz.lays156_ren:=zzM
open Go.RowKit in
theorem Tryz.strings_Join_none(a:Option WT)(c:Nat)(sep:WG)(w:WA):
  Calls prog 86 #[sV a 0 c,sT sep] w λe w'=>e=rT (sT ⟨#[]⟩)/\w'=w:=Any.strings_Join_none Tryz.lays156 Tryz.Builder_Extra_156 a c sep w
open Go.RowKit in
theorem Tryz.strings_Join(bk o c:Nat)(xs:List WG)(sep:WG)(w:WA)(hcells:∀(j:Nat) x,xs[j]?=some x->w.cell? (aA bk (o+j))=some (sT x))(hbk:bk<w.1.size)(hN:xs.length<=140737488355328)(hcap:xs.length<=c)(hlen:(Lib.join (xs.map (·.data.toList)) sep.data.toList).length<=140737488355328):
  Calls prog 86 #[sV (some (aA bk o)) xs.length c,sT sep] w λe w'=>e=rT (sT ⟨(Lib.join (xs.map (·.data.toList)) sep.data.toList).toArray⟩)/\bW w w':=Any.strings_Join Tryz.lays156 Tryz.Builder_Extra_156 bk o c xs sep w hcells hbk hN hcap hlen
open Go.RowKit in
theorem Tryz.Builder_String_any_k(B b:Nat)(l:List UInt8)(w:WA)(h:Lib.IsBuilderF 54 5 B b (Lib.byteCells l) w)(hBw:B<=w.1.size):
  Calls prog 17 #[pP b] w λe w'=>e=rT (sT ⟨l.toArray⟩)/\(Lib.IsBuilderF 54 5 B b (Lib.byteCells l) w'/\Below B w w'/\Lib.OthersKept 5 (some b) w w'):=Any.Builder_String_any_k Tryz.lays169 Tryz.Builder_Extra_169 B b l w h hBw
open Go.RowKit Go.Sort Go.Lib in
def Tryz.laysM246_ren:Go.Shelf.Ren:=⟨λ|246=>98|283=>131|284=>132|285=>133|286=>134|129=>168|317=>167|318=>169|319=>170|320=>171|337=>213|338=>214|n=>n,λ|2=>2|3=>3|9=>9|4=>4|171=>207|0=>0|53=>36|37=>52|5=>5|173=>210|212=>242|51=>39|20=>20|213=>243|46=>45|232=>315|233=>316|n=>n,λ|17=>1|18=>5|19=>6|n=>n⟩
open Go.RowKit Go.Sort Go.Lib in
def Tryz.laysM243_ren:Go.Shelf.Ren:=⟨λ|243=>72|246=>98|283=>131|284=>132|285=>133|286=>134|129=>168|317=>167|318=>169|319=>170|320=>171|337=>213|338=>214|n=>n,λ|3=>3|9=>9|2=>2|4=>4|171=>207|0=>0|53=>36|37=>52|5=>5|173=>210|212=>242|51=>39|20=>20|213=>243|46=>45|232=>315|233=>316|n=>n,λ|17=>1|18=>5|19=>6|n=>n⟩
open Go.RowKit Go.Sort Go.Lib in
def Tryz.laysM171_ren:Go.Shelf.Ren:=⟨λ|171=>36|243=>72|246=>98|283=>131|284=>132|285=>133|286=>134|129=>168|317=>167|318=>169|319=>170|320=>171|337=>213|338=>214|n=>n,λ|3=>3|9=>9|2=>2|4=>4|171=>207|0=>0|53=>36|37=>52|5=>5|173=>210|212=>242|51=>39|20=>20|213=>243|46=>45|232=>315|233=>316|n=>n,λ|17=>1|18=>5|19=>6|n=>n⟩
theorem Tryz.laysM171:Go.Proofs.LaysM.n171 prog Tryz.laysM171_ren:=zzM
open Go.RowKit Go.Sort Go.Lib in
theorem Tryz.strconv_Itoa(n:Int)(h0:-9223372036854775808<=n)(h1:n<=9223372036854775807)(w:WA)(htab:Lib.TabIs prog w oA .u64 Lib.pow10Tab):
  Calls prog 36 #[iI n] w λe w'=>e=rT (sT ⟨(Lib.itoa n).toArray⟩)/\∃k os,w'=grow (w.drewN k) os:=Any.strconv_Itoa Tryz.laysM171 n h0 h1 w htab
def Tryz.lays171_ren:Go.Shelf.Ren:=⟨λ|171=>36|243=>72|246=>98|283=>131|284=>132|285=>133|286=>134|129=>168|317=>167|318=>169|319=>170|320=>171|337=>213|338=>214|n=>n,λ|3=>3|9=>9|2=>2|4=>4|171=>207|0=>0|53=>36|37=>52|5=>5|173=>210|212=>242|51=>39|20=>20|213=>243|46=>45|232=>315|233=>316|n=>n,λ|17=>1|18=>5|19=>6|n=>n⟩
theorem Tryz.lays171:Go.Proofs.Lays.n171 prog Tryz.lays171_ren:=zzM
open Go.RowKit Go.Sort Go.Lib in
theorem Tryz.strconv_Itoa_small(i:Nat)(hi:i<100)(w:WA):
  Calls prog 36 #[iI i] w λe w'=>e=rT (sT ⟨(Lib.decDigits i).toArray⟩)/\w'=w:=Any.strconv_Itoa_small Tryz.lays171 i hi w
def Tryz.laysM173_ren:Go.Shelf.Ren:=⟨λ|173=>130|246=>98|283=>131|284=>132|285=>133|286=>134|129=>168|317=>167|318=>169|319=>170|320=>171|337=>213|338=>214|n=>n,λ|2=>2|3=>3|9=>9|4=>4|171=>207|0=>0|53=>36|37=>52|5=>5|173=>210|212=>242|51=>39|20=>20|213=>243|46=>45|232=>315|233=>316|n=>n,λ|17=>1|18=>5|19=>6|n=>n⟩
theorem Tryz.laysM173:Go.Proofs.LaysM.n173 prog Tryz.laysM173_ren:=zzM
open Go.RowKit Go.Sort Go.Lib in
theorem Tryz.strconv_FormatInt_10(n:Int)(h0:-9223372036854775808<=n)(h1:n<=9223372036854775807)(w:WA)(htab:Lib.TabIs prog w oA .u64 Lib.pow10Tab):
  Calls prog 130 #[iI n,iI 10] w λe w'=>e=rT (sT ⟨(Lib.itoa n).toArray⟩)/\∃k os,w'=grow (w.drewN k) os:=Any.strconv_FormatInt_10 Tryz.laysM173 n h0 h1 w htab
open Go.RowKit in
def Tryz.laysC245_ren:Go.Shelf.Ren:=⟨λ|245=>166|279=>209|280=>210|281=>211|282=>212|316=>229|171=>36|205=>230|243=>72|246=>98|283=>131|284=>132|285=>133|286=>134|129=>168|317=>167|318=>169|319=>170|320=>171|337=>213|338=>214|n=>n,λ|9=>9|3=>3|75=>24|167=>284|4=>4|168=>287|210=>314|37=>52|0=>0|127=>108|145=>322|143=>320|2=>2|171=>207|53=>36|5=>5|173=>210|212=>242|51=>39|20=>20|213=>243|46=>45|232=>315|233=>316|80=>61|n=>n,λ|15=>3|16=>4|17=>1|18=>5|19=>6|n=>n⟩
open Go.RowKit in
def Tryz.laysC174_ren:Go.Shelf.Ren:=⟨λ|174=>129|247=>165|245=>166|287=>208|279=>209|280=>210|281=>211|282=>212|321=>227|322=>228|316=>229|171=>36|205=>230|243=>72|246=>98|283=>131|284=>132|285=>133|286=>134|129=>168|317=>167|318=>169|319=>170|320=>171|337=>213|338=>214|n=>n,λ|9=>9|3=>3|2=>2|75=>24|85=>205|4=>4|167=>284|5=>5|53=>36|175=>285|46=>45|168=>287|37=>52|0=>0|210=>314|21=>21|127=>108|145=>322|143=>320|171=>207|173=>210|212=>242|51=>39|20=>20|213=>243|232=>315|233=>316|80=>61|n=>n,λ|15=>3|16=>4|17=>1|18=>5|19=>6|n=>n⟩
theorem Tryz.laysC174:Go.Proofs.LaysC.n174 prog Tryz.laysC174_ren:=zzM
open Go.RowKit in
theorem Tryz.strconv_ParseInt_10_at64_ok(s:WG)(hmax:s.size<=9223372036854775806)(v:Int)(h:Lib.parseIntB 64 s.data.toList=.ok v)(w:WA):
  Calls prog 129 #[sT s,iI 10,iI 64] w λe w'=>e=rT (tU #[iI v,.nilIface])/\(w'=w\/∃t,w'=Lib.bytesWorld w 5 t):=Any.strconv_ParseInt_10_at64_ok Tryz.laysC174 s hmax v h w
open Go.RowKit in
theorem Tryz.strconv_ParseInt_10_at64_syntax(s:WG)(hlim:s.size<=281474976710656)(h:Lib.parseIntB 64 s.data.toList=Lib.parseIntB 64 [])(ev:WB)(w:WA)(hv:w.cell? (aA 3 0)=some ev)(hev:ev=.nilIface\/∃te pe,ev=.iface te pe):
  Calls prog 129 #[sT s,iI 10,iI 64] w λe w'=>∃N,e=rT (tU #[iI (0),.iface 287 (pP N)])/\w.1.size<=N/\w'.1[N]?=some (.cells #[sT ⟨#[80,97,114,115,101,73,110,116]⟩,sT s,ev] 314 (0,0))/\bW w w':=Any.strconv_ParseInt_10_at64_syntax Tryz.laysC174 s hlim h ev w hv hev
open Go.RowKit in
theorem Tryz.strconv_ParseInt_10_at64_range(s:WG)(hlim:s.size<=281474976710656)(h:Lib.parseIntB 64 s.data.toList=.range)(ev:WB)(w:WA)(hv:w.cell? (aA 4 0)=some ev)(hev:ev=.nilIface\/∃te pe,ev=.iface te pe):
  Calls prog 129 #[sT s,iI 10,iI 64] w λe w'=>∃N,e=rT (tU #[iI (Lib.intSat 64 s.data.toList),.iface 287 (pP N)])/\w.1.size<=N/\w'.1[N]?=some (.cells #[sT ⟨#[80,97,114,115,101,73,110,116]⟩,sT s,ev] 314 (0,0))/\bW w w':=Any.strconv_ParseInt_10_at64_range Tryz.laysC174 s hlim h ev w hv hev
open Go.RowKit Go.Lib in
def Tryz.lays219_ren:Go.Shelf.Ren:=⟨λ|219=>127|217=>161|225=>162|224=>163|267=>164|266=>206|314=>207|n=>n,λ|9=>9|3=>3|4=>4|5=>5|46=>45|146=>282|51=>39|n=>n,λ|1=>0|n=>n⟩
theorem Tryz.lays219:Go.Proofs.Lays.n219 prog Tryz.lays219_ren:=zzM
open Go.RowKit Go.Lib in
theorem Tryz.stringslite_Index_one(s:WG)(c:UInt8)(w:WA):
  Calls prog 127 #[sT s,sT ⟨#[c]⟩] w λe w'=>e=rT (iI (Lib.indexByte s.data.toList c))/\w'=w:=Any.stringslite_Index_one Tryz.lays219 s c w
open Go.RowKit Go.Lib in
def Tryz.lays189_ren:Go.Shelf.Ren:=⟨λ|189=>124|125=>159|257=>158|128=>205|129=>168|294=>196|295=>197|296=>198|297=>199|298=>200|299=>201|216=>202|300=>203|301=>204|328=>221|329=>222|330=>223|331=>224|332=>225|215=>226|343=>232|n=>n,λ|28=>87|3=>3|46=>45|0=>0|51=>39|53=>36|4=>4|183=>277|182=>276|131=>230|5=>5|9=>9|218=>307|222=>310|228=>317|229=>318|n=>n,λ|n=>n⟩
theorem Tryz.lays189:Go.Proofs.Lays.n189 prog Tryz.lays189_ren:=zzM
open Go.Sort Go.RowKit in
theorem Tryz.slices_Sort_int(blk off cap:Nat)(zs:List Int)(w:WA)(hH:Holds (Value.int .i64) w blk off zs.toArray)(hblk:blk<w.1.size)(hsz:zs.length<4611686018427387904):
  Calls prog 124 #[sV (some (aA blk off)) zs.length cap] w λe w'=>
   e=rT (tU #[])/\∃n os,w'=grow (putRow (Value.int .i64) (Sort.ahead w n) blk off (zs.mergeSort λx y=>decide (x<=y)).toArray) os:=Any.slices_Sort_int Tryz.lays189 blk off cap zs w hH hblk hsz
def Tryz.lays207_ren:Go.Shelf.Ren:=⟨λ|207=>128|n=>n,λ|9=>9|4=>4|3=>3|n=>n,λ|n=>n⟩
open Go.RowKit Go.Lib in
def Tryz.lays102_ren:Go.Shelf.Ren:=⟨λ|102=>59|209=>95|207=>128|n=>n,λ|9=>9|4=>4|3=>3|n=>n,λ|n=>n⟩
theorem Tryz.lays102:Go.Proofs.Lays.n102 prog Tryz.lays102_ren:=zzM
open Go.RowKit Go.Lib in
theorem Tryz.strings_TrimSuffix(s p:WG)(w:WA)(hs:s.size<=9223372036854775807):
  Calls prog 59 #[sT s,sT p] w λe w'=>e=rT (sT ⟨(Lib.trimSuffix s.data.toList p.data.toList).toArray⟩)/\w'=w:=Any.strings_TrimSuffix Tryz.lays102 s p w hs
def Tryz.lays229_ren:Go.Shelf.Ren:=⟨λ|229=>62|n=>n,λ|9=>9|40=>101|31=>22|152=>155|3=>3|0=>0|4=>4|21=>21|154=>157|n=>n,λ|n=>n⟩
theorem Tryz.lays229:Go.Proofs.Lays.n229 prog Tryz.lays229_ren:=zzM
open Go.RowKit Go.Lib in
theorem Tryz.strings_FieldsFunc(g:Nat)(lb:Array WB)(eg:∀args w,(callFunc g args).run prog w=.ok (.enter g args) w)(p:Nat->Bool)(s:WG)(w:WA)(hs:s.size<=4294967296)(hp:PredAt prog g lb encR p w):
  Calls prog 62 #[sT s,.func (.func g) #[] lb] w λe w'=>∃A,e=rT (sL A (Lib.goFieldsP p s).length (Lib.goFieldsP p s).length)/\w.1.size<=A/\
   w'.ownsRow w.1.size 9 1 (sL A (Lib.goFieldsP p s).length (Lib.goFieldsP p s).length) (Lib.goFieldsP p s).length ((Lib.goFieldsP p s).map Value.string)/\bW w w':=Any.strings_FieldsFunc Tryz.lays229 g lb eg p s w hs hp oh oh
def Tryz.lays113_ren:Go.Shelf.Ren:=⟨λ|113=>155|n=>n,λ|28=>87|3=>3|4=>4|9=>9|20=>20|0=>0|n=>n,λ|n=>n⟩
theorem Tryz.lays113:Go.Proofs.Lays.n113 prog Tryz.lays113_ren:=zzM
open Go.Lib in
theorem Tryz.slices_Max_int(b off n c:Nat)(zs:List Int)(w:WA)(hn:0<n)(hz:n<=zs.length)(hbig:n<=9223372036854775807)(hc:∀j,j<zs.length->w.cell? (aA b (off+j))=some (iI (zs.getD j 0))):
  Calls prog 155 #[sV (some (aA b off)) n c] w λe w'=>e=rT (iI (Lib.maxOf (zs.take n)))/\w'=w:=Any.slices_Max_int Tryz.lays113 b off n c zs w hn hz hbig hc
def Tryz.lays114_ren:Go.Shelf.Ren:=⟨λ|114=>156|n=>n,λ|28=>87|3=>3|4=>4|9=>9|20=>20|0=>0|n=>n,λ|n=>n⟩
theorem Tryz.lays114:Go.Proofs.Lays.n114 prog Tryz.lays114_ren:=zzM
open Go.Lib in
theorem Tryz.slices_Min_int(b off n c:Nat)(zs:List Int)(w:WA)(hn:0<n)(hz:n<=zs.length)(hbig:n<=9223372036854775807)(hc:∀j,j<zs.length->w.cell? (aA b (off+j))=some (iI (zs.getD j 0))):
  Calls prog 156 #[sV (some (aA b off)) n c] w λe w'=>e=rT (iI (Lib.minOf (zs.take n)))/\w'=w:=Any.slices_Min_int Tryz.lays114 b off n c zs w hn hz hbig hc
def Tryz.laysNm215_ren:Go.Shelf.Ren:=⟨λ|15=>103|n=>n,λ|22=>87|3=>3|4=>4|n=>n,λ|n=>n⟩
theorem Tryz.laysNm215:Go.Proofs.Lays2.n15 prog Tryz.laysNm215_ren:=zzM
open Go.RowKit Go.Lib in
theorem Tryz.slices_Clone_int(b off n c:Nat)(zs:List Int)(w:WA)(hz:n<=zs.length)(hbig:n*8<=140737488355328)(hc:∀j,j<zs.length->w.cell? (aA b (off+j))=some (iI (zs.getD j 0))):
  Calls prog 103 #[sV (some (aA b off)) n c] w λe w'=>∃v',e=rT v'/\w'.ownsRow w.1.size 3 1 v' n ((zs.take n).map (Value.int .i64))/\v'≠sV none 0 0/\bW w w':=Any.slices_Clone_int Tryz.laysNm215 b off n c zs w hz hbig hc
open Go.RowKit Go.Lib in
def Tryz.laysNm224_ren:Go.Shelf.Ren:=⟨λ|24=>146|n=>n,λ|24=>22|9=>9|3=>3|4=>4|0=>0|n=>n,λ|n=>n⟩
theorem Tryz.laysNm224:Go.Proofs.Lays2.n24 prog Tryz.laysNm224_ren:=zzM
open Go.RowKit Go.Lib Go.Sort in
theorem Tryz.slices_Delete_string(blk off cap i j:Nat)(zs:List (List UInt8))(w:WA)(hH:Holds encStr w blk off zs.toArray)(hcap:zs.length<=cap)(hm:cap<=9223372036854775807)(hij:i<=j)(hj:j<=zs.length):
  Calls prog 146 #[sV (some (aA blk off)) zs.length cap,iI i,iI j] w λe w'=>e=rT (sV (some (aA blk off)) (zs.length-(j-i)) cap)/\∃q,w'=putRow encStr (Sort.ahead w q) blk off (zs.take i++zs.drop j++List.replicate (j-i) []).toArray:=Any.slices_Delete_string Tryz.laysNm224 blk off cap i j zs w hH hcap hm hij hj
open Go.RowKit Go.Lib in
def Tryz.laysSlH8_f105_ren:Go.Shelf.Ren:=⟨λ|8=>105|6=>141|n=>n,λ|22=>87|23=>3|25=>107|4=>4|3=>3|0=>0|n=>n,λ|n=>n⟩
theorem Tryz.laysSlH8_f105:Go.Proofs.SlLaysH.n8 prog Tryz.laysSlH8_f105_ren:={
 mixed:=by kernel_rfl
 f6:=⟨Tryz.f141.name,og,func141.trans (jA some oh)⟩
 f8:=⟨Tryz.f105.name,og,func105.trans (jA some oh)⟩
 t0:=underlying0
 a0:=isAgg0
 z0:=sizeOf0
 v0:=zeroValue0
 t3:=underlying3
 a3:=isAgg3
 z3:=sizeOf3
 v3:=zeroValue3
 t4:=underlying4
 a4:=isAgg4
 z4:=sizeOf4
 v4:=zeroValue4
 t22:=underlying87
 a22:=isAgg87
 z22:=sizeOf87
 v22:=zeroValue87
 a23:=isAgg3
 z23:=sizeOf3
 t25:=underlying107
 a25:=isAgg107
 z25:=sizeOf107
 v25:=zeroValue107 }
open Go.RowKit Go.Lib in
theorem Tryz.slices_ContainsFunc{α:Type}[Inhabited α](enc:α->WB)(p:α->Bool)(g:Nat)(lb:Array WB)(eg:∀args w,(callFunc g args).run prog w=.ok (.enter g args) w)(b off n c:Nat)(zs:List α)(w:WA)(hp:PredAt prog g lb enc p w)(hz:n<=zs.length)(hbig:n<=9223372036854775807)(hc:∀j,j<zs.length->w.cell? (aA b (off+j))=some (enc zs[j]!)):
  Calls prog 105 #[sV (some (aA b off)) n c,.func (.func g) #[] lb] w λe w'=>e=rT (.bool ((zs.take n).any p))/\∃q,w'=w.drewN q:=AnyE.slices_ContainsFunc Tryz.laysSlH8_f105 enc p g lb eg b off n c zs w hp hz hbig hc
