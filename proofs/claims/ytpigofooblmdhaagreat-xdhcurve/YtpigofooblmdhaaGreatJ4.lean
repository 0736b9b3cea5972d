/- PROVED: the function pendulumlaw03.XdhCurve answers true for every input, and each argument reads behind the call as it read before; no condition. -/
import Derived.Test.YtpigofooblmdhaaGreatJ3
import Derived.Test.YtpigofooblmdhaaGreatZ3
import Derived.Test.YtpigofooblmdhaaGreatN19
import Derived.Test.YtpigofooblmdhaaGreatF0
/- The example of layer 3: RFC 7748's first, and a coordinate of 0. -/
set_option linter.all false
set_option maxRecDepth 100000
namespace Go.Proofs.YtpigofooblmdhaaGreat
open Go.RowKit Go.Sort
theorem la0 : [true, false, false, false, true, false, false, true, false, false, true, true, false, true, false].foldl (lstep 34426434033919594451155107781188821651316167215306631574996226621102155684838) ((1, 0, 34426434033919594451155107781188821651316167215306631574996226621102155684838, 1) : Int × Int × Int × Int) = (38823908460797657666483361503277475781630144149615523375485563982676228946860, 45105876714468267868065793491380380295499983917718258397975650028406915136873, 50454248067513615812927998578169643763859376317470679755687255942542258482887, 35693578470779519018683144706185675651036495956288485204069773902678061483881) := by decide +kernel
theorem la1 : [false, true, false, false, false, true, false, false, true, false, true, true, true, false, true].foldl (lstep 34426434033919594451155107781188821651316167215306631574996226621102155684838) ((38823908460797657666483361503277475781630144149615523375485563982676228946860, 45105876714468267868065793491380380295499983917718258397975650028406915136873, 50454248067513615812927998578169643763859376317470679755687255942542258482887, 35693578470779519018683144706185675651036495956288485204069773902678061483881) : Int × Int × Int × Int) = (56500261329474431162472132001581006515287588223950207337712624846826608735727, 5137363528154173200179635312142687107042813607889117799074961719694693353635, 49673951087991086217698382372551070261252310312110646938999545907497223726013, 30211511095384617556086654642682305214431767967711311125588779947623851968422) := by decide +kernel
theorem la2 : [false, false, true, false, false, false, true, false, false, false, false, true, false, false, false].foldl (lstep 34426434033919594451155107781188821651316167215306631574996226621102155684838) ((56500261329474431162472132001581006515287588223950207337712624846826608735727, 5137363528154173200179635312142687107042813607889117799074961719694693353635, 49673951087991086217698382372551070261252310312110646938999545907497223726013, 30211511095384617556086654642682305214431767967711311125588779947623851968422) : Int × Int × Int × Int) = (50709678336914074677660208797294172065764812195042294892877401421023189916197, 54559101726904987316590975301357161284329759283688031830852173568021526199706, 41596700706755170904764295234112023016208106244331776369890287589473190112107, 12259032010887752598290542774704359151859393077679798435678905047296791763548) := by decide +kernel
theorem la3 : [true, false, false, true, true, false, true, false, true, false, false, true, false, true, false].foldl (lstep 34426434033919594451155107781188821651316167215306631574996226621102155684838) ((50709678336914074677660208797294172065764812195042294892877401421023189916197, 54559101726904987316590975301357161284329759283688031830852173568021526199706, 41596700706755170904764295234112023016208106244331776369890287589473190112107, 12259032010887752598290542774704359151859393077679798435678905047296791763548) : Int × Int × Int × Int) = (28046059175588077627229632598195043886844228660991954265633586468227393458520, 33661525873766540099520392436941157321607292901080537217035312754346469923847, 28442957418389697279225384445773774157674958241029453634385683427630595510925, 47254944639617072223550213347551525524918803160408038363295252563399581886013) := by decide +kernel
theorem la4 : [false, false, false, false, false, false, true, true, false, false, false, false, true, false, true].foldl (lstep 34426434033919594451155107781188821651316167215306631574996226621102155684838) ((28046059175588077627229632598195043886844228660991954265633586468227393458520, 33661525873766540099520392436941157321607292901080537217035312754346469923847, 28442957418389697279225384445773774157674958241029453634385683427630595510925, 47254944639617072223550213347551525524918803160408038363295252563399581886013) : Int × Int × Int × Int) = (16964279897361214622933394939549673323509179397049400825273249536167038604253, 41592416696912529540807032302236308618661493121774377618232383211944979222697, 39631852205841246485973322362898381055326747939987754431335888171371521429579, 11479475009952235616794985046694763721558430993125019059449499353704914640754) := by decide +kernel
theorem la5 : [true, false, true, false, true, true, true, true, true, true, false, false, true, true, false].foldl (lstep 34426434033919594451155107781188821651316167215306631574996226621102155684838) ((16964279897361214622933394939549673323509179397049400825273249536167038604253, 41592416696912529540807032302236308618661493121774377618232383211944979222697, 39631852205841246485973322362898381055326747939987754431335888171371521429579, 11479475009952235616794985046694763721558430993125019059449499353704914640754) : Int × Int × Int × Int) = (4078048717078925677168177632394803780327715511204511803170571904670630976675, 37474131975719200361480490829330050128364815369548573472011142157299050703260, 1510845308656487959268880177433811708064016088731550186856138497234813717378, 13812347891097646848627378392004485626326255747065604232209097077634135447102) := by decide +kernel
theorem la6 : [false, false, false, false, true, false, false, false, false, true, false, true, false, false, true].foldl (lstep 34426434033919594451155107781188821651316167215306631574996226621102155684838) ((4078048717078925677168177632394803780327715511204511803170571904670630976675, 37474131975719200361480490829330050128364815369548573472011142157299050703260, 1510845308656487959268880177433811708064016088731550186856138497234813717378, 13812347891097646848627378392004485626326255747065604232209097077634135447102) : Int × Int × Int × Int) = (56054573634639957970442305357816129842779849531377884405940746180153851644547, 28117561350859183517596317674186482551730401698031541567889096382788771910109, 35683441721446463054850148051518612583940646328609413735615504925308989943948, 55063497256630611079054522338102887030132540728486389289411254222016189988898) := by decide +kernel
theorem la7 : [false, false, true, true, false, false, false, false, false, true, false, true, false, false, false].foldl (lstep 34426434033919594451155107781188821651316167215306631574996226621102155684838) ((56054573634639957970442305357816129842779849531377884405940746180153851644547, 28117561350859183517596317674186482551730401698031541567889096382788771910109, 35683441721446463054850148051518612583940646328609413735615504925308989943948, 55063497256630611079054522338102887030132540728486389289411254222016189988898) : Int × Int × Int × Int) = (38686447599340090171758780942022877806164508890445849188403595581981070834622, 15966122190991346815931481301672495727337697576802296444700246898874428174341, 10192264073126922192427344745513309878536867233850009818659033289442788000989, 30504075928699489627343276213817897388628458790676539282397346543638564041419) := by decide +kernel
theorem la8 : [true, true, false, false, false, true, false, true, true, false, true, true, true, false, true].foldl (lstep 34426434033919594451155107781188821651316167215306631574996226621102155684838) ((38686447599340090171758780942022877806164508890445849188403595581981070834622, 15966122190991346815931481301672495727337697576802296444700246898874428174341, 10192264073126922192427344745513309878536867233850009818659033289442788000989, 30504075928699489627343276213817897388628458790676539282397346543638564041419) : Int × Int × Int × Int) = (442976050587679741140283186821474094950908529783794433272710463706210094406, 27021284736884179627475649532269436963792322494231470646180417553631810154474, 32767147832854158832422751334682619503068083022139555870013097890195778391205, 14934983904070004255261220360669838263310817449087400669987125373888288499941) := by decide +kernel
theorem la9 : [false, true, false, true, true, true, true, false, false, true, false, false, false, true, true].foldl (lstep 34426434033919594451155107781188821651316167215306631574996226621102155684838) ((442976050587679741140283186821474094950908529783794433272710463706210094406, 27021284736884179627475649532269436963792322494231470646180417553631810154474, 32767147832854158832422751334682619503068083022139555870013097890195778391205, 14934983904070004255261220360669838263310817449087400669987125373888288499941) : Int × Int × Int × Int) = (57682317012886874140769721152078925758481529826751122713056139754814604104973, 13866938450180196817122247161890046573574724235807734287262242861156747606078, 47127243661051308477252001479157642566969262543358395739691683804390154726144, 26405241921080619885215487342181230759981352744330445102836795236180525164047) := by decide +kernel
theorem la10 : [false, true, false, false, false, false, false, true, false, false, true, false, false, true, false].foldl (lstep 34426434033919594451155107781188821651316167215306631574996226621102155684838) ((57682317012886874140769721152078925758481529826751122713056139754814604104973, 13866938450180196817122247161890046573574724235807734287262242861156747606078, 47127243661051308477252001479157642566969262543358395739691683804390154726144, 26405241921080619885215487342181230759981352744330445102836795236180525164047) : Int × Int × Int × Int) = (6963494692422664134674523859905821333229775294560035173644404315503034157160, 52657217032646215548482130251109739889517943712401961729529653014243000286662, 8761692084618560276211892830549642066902375701288617247303230215054175680061, 35870934485175978570118978686850321988039927383237663596741642453562288698228) := by decide +kernel
theorem la11 : [true, true, false, false, false, true, false, true, false, true, false, false, false, true, false].foldl (lstep 34426434033919594451155107781188821651316167215306631574996226621102155684838) ((6963494692422664134674523859905821333229775294560035173644404315503034157160, 52657217032646215548482130251109739889517943712401961729529653014243000286662, 8761692084618560276211892830549642066902375701288617247303230215054175680061, 35870934485175978570118978686850321988039927383237663596741642453562288698228) : Int × Int × Int × Int) = (4255762770975085920908469194644976073317439473345255552773855799751096341861, 55338385804089876239389705388700036245914777272663455598401335818926353724157, 17468173373753592029727198027618023969589138213072515121421317933336267977525, 31128733972514191004735429327004941263847662860729659846557335280043798234083) := by decide +kernel
theorem la12 : [true, true, false, false, false, true, true, true, false, true, true, true, false, false, true].foldl (lstep 34426434033919594451155107781188821651316167215306631574996226621102155684838) ((4255762770975085920908469194644976073317439473345255552773855799751096341861, 55338385804089876239389705388700036245914777272663455598401335818926353724157, 17468173373753592029727198027618023969589138213072515121421317933336267977525, 31128733972514191004735429327004941263847662860729659846557335280043798234083) : Int × Int × Int × Int) = (7927878358399291052239974808212397500807354247220424730761426274558668812684, 38581700288538777499651448864324450490548039475407814333692529163178625597097, 8408033955508890878799780518141823970028751509627055797467176340708833971994, 3569521666364088552879064176169460029573034713601259587739963118049000486495) := by decide +kernel
theorem la13 : [true, true, false, true, false, true, true, true, true, true, false, false, false, true, false].foldl (lstep 34426434033919594451155107781188821651316167215306631574996226621102155684838) ((7927878358399291052239974808212397500807354247220424730761426274558668812684, 38581700288538777499651448864324450490548039475407814333692529163178625597097, 8408033955508890878799780518141823970028751509627055797467176340708833971994, 3569521666364088552879064176169460029573034713601259587739963118049000486495) : Int × Int × Int × Int) = (23769742546589786601609457214425495171107127792259333796321810405732187195250, 35012147275779692652476907589756220596894766297315196046999338375808102286328, 56183044748560672038727298051054548739740807786031048489431146440110612470796, 54721847086537635867442612581838038506414619673176850774735501327859594876226) := by decide +kernel
theorem la14 : [true, false, false, true, false, true, true, true, true, false, false, false, false, false, true].foldl (lstep 34426434033919594451155107781188821651316167215306631574996226621102155684838) ((23769742546589786601609457214425495171107127792259333796321810405732187195250, 35012147275779692652476907589756220596894766297315196046999338375808102286328, 56183044748560672038727298051054548739740807786031048489431146440110612470796, 54721847086537635867442612581838038506414619673176850774735501327859594876226) : Int × Int × Int × Int) = (56800893991862990976396785276629781483845288789342365394637685835485702195246, 29181281794882208667053339213936126495396665305064615950902184338105288574972, 11390370068185876260356235969923879749552013528744709351840926247533605581890, 46426957643877517789213338424317867436671188206807204144977601191360635097621) := by decide +kernel
theorem la15 : [true, false, true, false, true, true, true, true, true, false, false, false, true, true, false].foldl (lstep 34426434033919594451155107781188821651316167215306631574996226621102155684838) ((56800893991862990976396785276629781483845288789342365394637685835485702195246, 29181281794882208667053339213936126495396665305064615950902184338105288574972, 11390370068185876260356235969923879749552013528744709351840926247533605581890, 46426957643877517789213338424317867436671188206807204144977601191360635097621) : Int × Int × Int × Int) = (30681502354801701046152196026270320320789865451500279784918714664360855973714, 40710321702877544881599284918604295164296309025011008711241559648540321294370, 12135507091235317837703602285694901101156655090697319827101527731423451756391, 27360458756016025810347072832510222941936570719133105141578230900317706774116) := by decide +kernel
theorem la16 : [true, false, false, false, true, true, false, true, false, true, false, false, false, false, false].foldl (lstep 34426434033919594451155107781188821651316167215306631574996226621102155684838) ((30681502354801701046152196026270320320789865451500279784918714664360855973714, 40710321702877544881599284918604295164296309025011008711241559648540321294370, 12135507091235317837703602285694901101156655090697319827101527731423451756391, 27360458756016025810347072832510222941936570719133105141578230900317706774116) : Int × Int × Int × Int) = (40720446656044610887007743526168351200949085573335588056034522313589005102685, 1913421194926468280838932077950181047858614286606652195677699455974229136423, 45198403963383475001499220223294015390359985422632949493664307348747558308726, 36379949606018683717551128537890270090677201059301795776972403754422640538679) := by decide +kernel
theorem la : lsts 34426434033919594451155107781188821651316167215306631574996226621102155684838 (upto 31029842492115040904895560451863089656472772604678260265531221036453811406496 255 255) = (40720446656044610887007743526168351200949085573335588056034522313589005102685, 1913421194926468280838932077950181047858614286606652195677699455974229136423, 45198403963383475001499220223294015390359985422632949493664307348747558308726, 36379949606018683717551128537890270090677201059301795776972403754422640538679) := by
  have e : upto 31029842492115040904895560451863089656472772604678260265531221036453811406496 255 255 = [true, false, false, false, true, false, false, true, false, false, true, true, false, true, false] ++ [false, true, false, false, false, true, false, false, true, false, true, true, true, false, true] ++ [false, false, true, false, false, false, true, false, false, false, false, true, false, false, false] ++ [true, false, false, true, true, false, true, false, true, false, false, true, false, true, false] ++ [false, false, false, false, false, false, true, true, false, false, false, false, true, false, true] ++ [true, false, true, false, true, true, true, true, true, true, false, false, true, true, false] ++ [false, false, false, false, true, false, false, false, false, true, false, true, false, false, true] ++ [false, false, true, true, false, false, false, false, false, true, false, true, false, false, false] ++ [true, true, false, false, false, true, false, true, true, false, true, true, true, false, true] ++ [false, true, false, true, true, true, true, false, false, true, false, false, false, true, true] ++ [false, true, false, false, false, false, false, true, false, false, true, false, false, true, false] ++ [true, true, false, false, false, true, false, true, false, true, false, false, false, true, false] ++ [true, true, false, false, false, true, true, true, false, true, true, true, false, false, true] ++ [true, true, false, true, false, true, true, true, true, true, false, false, false, true, false] ++ [true, false, false, true, false, true, true, true, true, false, false, false, false, false, true] ++ [true, false, true, false, true, true, true, true, true, false, false, false, true, true, false] ++ [true, false, false, false, true, true, false, true, false, true, false, false, false, false, false] := by decide +kernel
  rw [e]
  unfold lsts
  simp only [List.foldl_append]
  rw [la0, la1, la2, la3, la4, la5, la6, la7, la8, la9, la10, la11, la12, la13, la14, la15, la16]
theorem lz0 : [true, false, false, false, true, false, false, true, false, false, true, true, false, true, false].foldl (lstep 0) ((1, 0, 0, 1) : Int × Int × Int × Int) = (0, 0, 0, 0) := by decide +kernel
theorem lz1 : [false, true, false, false, false, true, false, false, true, false, true, true, true, false, true].foldl (lstep 0) ((0, 0, 0, 0) : Int × Int × Int × Int) = (0, 0, 0, 0) := by decide +kernel
theorem lz2 : [false, false, true, false, false, false, true, false, false, false, false, true, false, false, false].foldl (lstep 0) ((0, 0, 0, 0) : Int × Int × Int × Int) = (0, 0, 0, 0) := by decide +kernel
theorem lz3 : [true, false, false, true, true, false, true, false, true, false, false, true, false, true, false].foldl (lstep 0) ((0, 0, 0, 0) : Int × Int × Int × Int) = (0, 0, 0, 0) := by decide +kernel
theorem lz4 : [false, false, false, false, false, false, true, true, false, false, false, false, true, false, true].foldl (lstep 0) ((0, 0, 0, 0) : Int × Int × Int × Int) = (0, 0, 0, 0) := by decide +kernel
theorem lz5 : [true, false, true, false, true, true, true, true, true, true, false, false, true, true, false].foldl (lstep 0) ((0, 0, 0, 0) : Int × Int × Int × Int) = (0, 0, 0, 0) := by decide +kernel
theorem lz6 : [false, false, false, false, true, false, false, false, false, true, false, true, false, false, true].foldl (lstep 0) ((0, 0, 0, 0) : Int × Int × Int × Int) = (0, 0, 0, 0) := by decide +kernel
theorem lz7 : [false, false, true, true, false, false, false, false, false, true, false, true, false, false, false].foldl (lstep 0) ((0, 0, 0, 0) : Int × Int × Int × Int) = (0, 0, 0, 0) := by decide +kernel
theorem lz8 : [true, true, false, false, false, true, false, true, true, false, true, true, true, false, true].foldl (lstep 0) ((0, 0, 0, 0) : Int × Int × Int × Int) = (0, 0, 0, 0) := by decide +kernel
theorem lz9 : [false, true, false, true, true, true, true, false, false, true, false, false, false, true, true].foldl (lstep 0) ((0, 0, 0, 0) : Int × Int × Int × Int) = (0, 0, 0, 0) := by decide +kernel
theorem lz10 : [false, true, false, false, false, false, false, true, false, false, true, false, false, true, false].foldl (lstep 0) ((0, 0, 0, 0) : Int × Int × Int × Int) = (0, 0, 0, 0) := by decide +kernel
theorem lz11 : [true, true, false, false, false, true, false, true, false, true, false, false, false, true, false].foldl (lstep 0) ((0, 0, 0, 0) : Int × Int × Int × Int) = (0, 0, 0, 0) := by decide +kernel
theorem lz12 : [true, true, false, false, false, true, true, true, false, true, true, true, false, false, true].foldl (lstep 0) ((0, 0, 0, 0) : Int × Int × Int × Int) = (0, 0, 0, 0) := by decide +kernel
theorem lz13 : [true, true, false, true, false, true, true, true, true, true, false, false, false, true, false].foldl (lstep 0) ((0, 0, 0, 0) : Int × Int × Int × Int) = (0, 0, 0, 0) := by decide +kernel
theorem lz14 : [true, false, false, true, false, true, true, true, true, false, false, false, false, false, true].foldl (lstep 0) ((0, 0, 0, 0) : Int × Int × Int × Int) = (0, 0, 0, 0) := by decide +kernel
theorem lz15 : [true, false, true, false, true, true, true, true, true, false, false, false, true, true, false].foldl (lstep 0) ((0, 0, 0, 0) : Int × Int × Int × Int) = (0, 0, 0, 0) := by decide +kernel
theorem lz16 : [true, false, false, false, true, true, false, true, false, true, false, false, false, false, false].foldl (lstep 0) ((0, 0, 0, 0) : Int × Int × Int × Int) = (0, 0, 0, 0) := by decide +kernel
theorem lz : lsts 0 (upto 31029842492115040904895560451863089656472772604678260265531221036453811406496 255 255) = (0, 0, 0, 0) := by
  have e : upto 31029842492115040904895560451863089656472772604678260265531221036453811406496 255 255 = [true, false, false, false, true, false, false, true, false, false, true, true, false, true, false] ++ [false, true, false, false, false, true, false, false, true, false, true, true, true, false, true] ++ [false, false, true, false, false, false, true, false, false, false, false, true, false, false, false] ++ [true, false, false, true, true, false, true, false, true, false, false, true, false, true, false] ++ [false, false, false, false, false, false, true, true, false, false, false, false, true, false, true] ++ [true, false, true, false, true, true, true, true, true, true, false, false, true, true, false] ++ [false, false, false, false, true, false, false, false, false, true, false, true, false, false, true] ++ [false, false, true, true, false, false, false, false, false, true, false, true, false, false, false] ++ [true, true, false, false, false, true, false, true, true, false, true, true, true, false, true] ++ [false, true, false, true, true, true, true, false, false, true, false, false, false, true, true] ++ [false, true, false, false, false, false, false, true, false, false, true, false, false, true, false] ++ [true, true, false, false, false, true, false, true, false, true, false, false, false, true, false] ++ [true, true, false, false, false, true, true, true, false, true, true, true, false, false, true] ++ [true, true, false, true, false, true, true, true, true, true, false, false, false, true, false] ++ [true, false, false, true, false, true, true, true, true, false, false, false, false, false, true] ++ [true, false, true, false, true, true, true, true, true, false, false, false, true, true, false] ++ [true, false, false, false, true, true, false, true, false, true, false, false, false, false, false] := by decide +kernel
  rw [e]
  unfold lsts
  simp only [List.foldl_append]
  rw [lz0, lz1, lz2, lz3, lz4, lz5, lz6, lz7, lz8, lz9, lz10, lz11, lz12, lz13, lz14, lz15, lz16]
theorem pw_gen (c n m : Nat) : ((c : Int) ^ n % (m : Int)) = ((c ^ n % m : Nat) : Int) := by push_cast; rfl
theorem pw_of (c n m f : Nat) (h : n < 2 ^ f) : ((c : Int) ^ n % (m : Int)) = ((NT.pmod m f c n : Nat) : Int) := by rw [NT.pmod_eq m f c n h]; exact pw_gen c n m
theorem p2_nat : (pp - 2).toNat = 57896044618658097711785492504343953926634992332820282019728792003956564819947 := by decide
theorem pp_nat : pp = ((57896044618658097711785492504343953926634992332820282019728792003956564819949 : Nat) : Int) := by decide
theorem pw_nat (c : Nat) : ((c : Int) ^ (pp - 2).toNat % pp) = ((NT.pmod 57896044618658097711785492504343953926634992332820282019728792003956564819949 256 c 57896044618658097711785492504343953926634992332820282019728792003956564819947 : Nat) : Int) := by
  have h := pw_of c (pp - 2).toNat 57896044618658097711785492504343953926634992332820282019728792003956564819949 256 (by rw [p2_nat]; decide)
  rw [← pp_nat] at h
  rw [h]
  congr 2
theorem xr_a : xr 31029842492115040904895560451863089656472772604678260265531221036453811406496 34426434033919594451155107781188821651316167215306631574996226621102155684838 = 37325765543539916631701301279660700968428932651319597985674090122993663859395 := by
  unfold xr vl fm
  rw [la]
  show 40720446656044610887007743526168351200949085573335588056034522313589005102685 * (((1913421194926468280838932077950181047858614286606652195677699455974229136423 : Nat) : Int) ^ (pp - 2).toNat % pp) % pp = _
  rw [pw_nat]
  decide +kernel
theorem xr_z : xr 31029842492115040904895560451863089656472772604678260265531221036453811406496 0 = 0 := by
  unfold xr vl fm
  rw [lz]
  show 0 * (((0 : Nat) : Int) ^ (pp - 2).toNat % pp) % pp = _
  rw [pw_nat]
  decide +kernel
end Go.Proofs.YtpigofooblmdhaaGreat
/- What hexed and awake of layer 3's statements answer. -/
set_option linter.all false
set_option maxRecDepth 100000
namespace Go.Proofs.YtpigofooblmdhaaGreat
open Go.RowKit Go.Sort
set_option maxHeartbeats 2000000 in
theorem hexed_core (s G : ByteArray) (N E : Int) (w : World)
    (CP : ∀ W, Calls Tryz.prog 45 #[.string s] W fun e w' => e = .returned (.tuple #[nv N, .int .i64 E]) ∧ Below W.heap.size W w')
    (CB : ∀ W, Calls Tryz.prog 46 #[nv N] W fun e w' => e = .returned (.string G) ∧ Below W.heap.size W w') :
    Calls Tryz.prog 22 #[.string s] w fun e w' => e = .returned (.string G) ∧ Below w.heap.size w w' := by
  go_enter Tryz.func22, Tryz.ntmps22
  go_wp2_with fail
  refine (CP _).mono ?_
  rintro e w1 ⟨rfl, hb1⟩
  go_wp2_with fail
  refine (CB _).mono ?_
  rintro e w2 ⟨rfl, hb2⟩
  have hB2 := Bel.call (Bel.al hb1 (.cells #[.int .u64 (lim N 0), .int .u64 (lim N 1), .int .u64 (lim N 2), .int .u64 (lim N 3)] 34)) hb2
  go_wp2_with fail
  go_returns
  exact ⟨rfl, hB2⟩
theorem hexed_u (s : ByteArray) (hs : s.size ≤ maxLen) (w : World) : Calls Tryz.prog 22 #[.string s] w fun e w' => e = .returned (.string (mkS (bgL (paN s)))) ∧ Below w.heap.size w w' :=
  hexed_core s _ _ _ w (refParse_u s hs) (refBig_any _)
theorem flN_big (N : Int) : flN (mkS (bgL N)) = pn 8 (fun i => byt N (31 - i)) 32 := by
  unfold flN
  rw [if_pos (by rw [mkS_size]; simp [bgL])]
  refine pn_congr 8 _ _ 32 fun i hi => ?_
  have b := byt_bd N (31 - i)
  exact mkS_bt _ (31 - i) _ (bgL_at N (31 - i) (by omega)) b.1 b.2
theorem flN_little (N : Int) : flN (mkS (ltL N)) = pn 8 (byt N) 32 := by
  unfold flN
  rw [if_pos (by rw [mkS_size]; simp [ltL])]
  refine pn_congr 8 _ _ 32 fun i hi => ?_
  have b := byt_bd N (31 - (31 - i))
  rw [mkS_bt _ (31 - i) _ (ltL_at N (31 - i) (by omega)) b.1 b.2, show 31 - (31 - i) = i by omega]
def kT : ByteArray := ⟨#[97, 53, 52, 54, 101, 51, 54, 98, 102, 48, 53, 50, 55, 99, 57, 100, 51, 98, 49, 54, 49, 53, 52, 98, 56, 50, 52, 54, 53, 101, 100, 100, 54, 50, 49, 52, 52, 99, 48, 97, 99, 49, 102, 99, 53, 97, 49, 56, 53, 48, 54, 97, 50, 50, 52, 52, 98, 97, 52, 52, 57, 97, 99, 52]⟩
theorem kT_n : paN kT = 74756868917217338918917584016587037124861727485050470800130516242174941895364 := by
  unfold paN
  rw [if_pos ⟨by decide, by unfold alld; decide +kernel⟩]
  decide +kernel
def uT : ByteArray := ⟨#[101, 54, 100, 98, 54, 56, 54, 55, 53, 56, 51, 48, 51, 48, 100, 98, 51, 53, 57, 52, 99, 49, 97, 52, 50, 52, 98, 49, 53, 102, 55, 99, 55, 50, 54, 54, 50, 52, 101, 99, 50, 54, 98, 51, 51, 53, 51, 98, 49, 48, 97, 57, 48, 51, 97, 54, 100, 48, 97, 98, 49, 99, 52, 99]⟩
theorem uT_n : paN uT = 104419615249119614659739186697032859710140679125170609451633447793090120850508 := by
  unfold paN
  rw [if_pos ⟨by decide, by unfold alld; decide +kernel⟩]
  decide +kernel
def rT : ByteArray := ⟨#[99, 51, 100, 97, 53, 53, 51, 55, 57, 100, 101, 57, 99, 54, 57, 48, 56, 101, 57, 52, 101, 97, 52, 100, 102, 50, 56, 100, 48, 56, 52, 102, 51, 50, 101, 99, 99, 102, 48, 51, 52, 57, 49, 99, 55, 49, 102, 55, 53, 52, 98, 52, 48, 55, 53, 53, 55, 55, 97, 50, 56, 53, 53, 50]⟩
theorem rT_n : paN rT = 88586766281725376921413435608782555080348280383973441073918345390347211933010 := by
  unfold paN
  rw [if_pos ⟨by decide, by unfold alld; decide +kernel⟩]
  decide +kernel
theorem kS_n : flN (mkS (bgL 74756868917217338918917584016587037124861727485050470800130516242174941895364)) = 88925887110773138616681052956207043583107764937498542285260013040410376226469 := by rw [flN_big]; decide +kernel
theorem uS_n : flN (mkS (bgL 104419615249119614659739186697032859710140679125170609451633447793090120850508)) = 34426434033919594451155107781188821651316167215306631574996226621102155684838 := by rw [flN_big]; decide +kernel
theorem zS_n : flN (mkS (ltL 0)) = 0 := by rw [flN_little]; decide +kernel
theorem kC_n : cl 88925887110773138616681052956207043583107764937498542285260013040410376226469 = 31029842492115040904895560451863089656472772604678260265531221036453811406496 := by decide +kernel
theorem uC_n : c5 34426434033919594451155107781188821651316167215306631574996226621102155684838 % pp = 34426434033919594451155107781188821651316167215306631574996226621102155684838 := by decide +kernel
theorem big32 (N : Int) : (mkS (bgL N)).size = 32 := by rw [mkS_size]; simp [bgL]
theorem lit32 (N : Int) : (mkS (ltL N)).size = 32 := by rw [mkS_size]; simp [ltL]
theorem rS_n : rawS (mkS (bgL 74756868917217338918917584016587037124861727485050470800130516242174941895364)) (mkS (bgL 104419615249119614659739186697032859710140679125170609451633447793090120850508)) = mkS (bgL 88586766281725376921413435608782555080348280383973441073918345390347211933010) := by
  unfold rawS
  rw [if_pos ⟨big32 _, big32 _⟩, kS_n, uS_n, kC_n, uC_n, xr_a]
  exact congrArg mkS (by decide +kernel)
theorem rE_n (k u : ByteArray) (hk : k.size = 32) (hu : u.size = 32) : rawE k u = 0 := by unfold rawE; rw [if_pos hk, lenE_yes (by omega)]
theorem zR_n : rawS (mkS (bgL 74756868917217338918917584016587037124861727485050470800130516242174941895364)) (mkS (ltL 0)) = mkS (ltL 0) := by
  unfold rawS
  rw [if_pos ⟨big32 _, lit32 _⟩, kS_n, zS_n, kC_n, show c5 0 % pp = 0 by decide, xr_z]
theorem zE_n : shE (mkS (bgL 74756868917217338918917584016587037124861727485050470800130516242174941895364)) (mkS (ltL 0)) = 15 := by
  unfold shE
  rw [if_pos (rE_n _ _ (big32 _) (lit32 _)), if_pos (by rw [zR_n])]
set_option maxHeartbeats 4000000 in
theorem awake3_core (k u S z T : ByteArray) (w : World)
    (H1 : ∀ W, Calls Tryz.prog 22 #[.string ⟨#[97, 53, 52, 54, 101, 51, 54, 98, 102, 48, 53, 50, 55, 99, 57, 100, 51, 98, 49, 54, 49, 53, 52, 98, 56, 50, 52, 54, 53, 101, 100, 100, 54, 50, 49, 52, 52, 99, 48, 97, 99, 49, 102, 99, 53, 97, 49, 56, 53, 48, 54, 97, 50, 50, 52, 52, 98, 97, 52, 52, 57, 97, 99, 52]⟩] W fun e w' => e = .returned (.string k) ∧ Below W.heap.size W w')
    (H2 : ∀ W, Calls Tryz.prog 22 #[.string ⟨#[101, 54, 100, 98, 54, 56, 54, 55, 53, 56, 51, 48, 51, 48, 100, 98, 51, 53, 57, 52, 99, 49, 97, 52, 50, 52, 98, 49, 53, 102, 55, 99, 55, 50, 54, 54, 50, 52, 101, 99, 50, 54, 98, 51, 51, 53, 51, 98, 49, 48, 97, 57, 48, 51, 97, 54, 100, 48, 97, 98, 49, 99, 52, 99]⟩] W fun e w' => e = .returned (.string u) ∧ Below W.heap.size W w')
    (H3 : ∀ W, Calls Tryz.prog 22 #[.string ⟨#[99, 51, 100, 97, 53, 53, 51, 55, 57, 100, 101, 57, 99, 54, 57, 48, 56, 101, 57, 52, 101, 97, 52, 100, 102, 50, 56, 100, 48, 56, 52, 102, 51, 50, 101, 99, 99, 102, 48, 51, 52, 57, 49, 99, 55, 49, 102, 55, 53, 52, 98, 52, 48, 55, 53, 53, 55, 55, 97, 50, 56, 53, 53, 50]⟩] W fun e w' => e = .returned (.string S) ∧ Below W.heap.size W w')
    (CR : ∀ W, Calls Tryz.prog 9 #[.string k, .string u] W fun e w' => e = .returned (.tuple #[.string S, .int .i64 0]) ∧ Below W.heap.size W w')
    (CZ : ∀ W, Calls Tryz.prog 24 #[.agg #[.int .u64 0, .int .u64 0, .int .u64 0, .int .u64 0]] W fun e w' => e = .returned (.string z) ∧ Below W.heap.size W w')
    (CS : ∀ W, Calls Tryz.prog 23 #[.string k, .string z] W fun e w' => e = .returned (.tuple #[.string T, .int .i64 15]) ∧ Below W.heap.size W w') :
    Calls Tryz.prog 8 #[] w fun e w' => e = .returned (.bool true) ∧ Below w.heap.size w w' := by
  go_enter Tryz.func8, Tryz.ntmps8
  go_wp2_with fail
  refine (H1 _).mono ?_
  rintro e w1 ⟨rfl, hb⟩
  have hB := hb
  clear hb
  go_wp2_with fail
  refine (H2 _).mono ?_
  rintro e w2 ⟨rfl, hb⟩
  have hB' := Bel.call hB hb
  clear hb hB
  have hB := hB'
  clear hB'
  go_wp2_with fail
  refine (CR _).mono ?_
  rintro e w3 ⟨rfl, hb⟩
  have hB' := Bel.call hB hb
  clear hb hB
  have hB := hB'
  clear hB'
  go_wp2_with fail
  refine (CZ _).mono ?_
  rintro e w4 ⟨rfl, hb⟩
  have hB' := Bel.call hB hb
  clear hb hB
  have hB := hB'
  clear hB'
  go_wp2_with fail
  refine (CS _).mono ?_
  rintro e w5 ⟨rfl, hb⟩
  have hB' := Bel.call hB hb
  clear hb hB
  have hB := hB'
  clear hB'
  go_wp2_with fail
  refine (H3 _).mono ?_
  rintro e w6 ⟨rfl, hb⟩
  have hB' := Bel.call hB hb
  clear hb hB
  have hB := hB'
  clear hB'
  go_wp2_with fail
  go_returns
  exact ⟨rfl, hB⟩
theorem awake3 (w : World) : Calls Tryz.prog 8 #[] w fun e w' => e = .returned (.bool true) ∧ Below w.heap.size w w' := by
  have m32 : ∀ s : ByteArray, s.size = 32 → s.size ≤ maxLen := fun s h => by rw [h]; decide
  refine awake3_core (mkS (bgL 74756868917217338918917584016587037124861727485050470800130516242174941895364)) (mkS (bgL 104419615249119614659739186697032859710140679125170609451633447793090120850508)) (mkS (bgL 88586766281725376921413435608782555080348280383973441073918345390347211933010)) (mkS (ltL 0)) (shS (mkS (bgL 74756868917217338918917584016587037124861727485050470800130516242174941895364)) (mkS (ltL 0))) w (fun W => ?_) (fun W => ?_) (fun W => ?_) (fun W => ?_) (fun W => ?_) (fun W => ?_)
  · have := hexed_u kT (by decide) W
    rw [kT_n] at this
    exact this
  · have := hexed_u uT (by decide) W
    rw [uT_n] at this
    exact this
  · have := hexed_u rT (by decide) W
    rw [rT_n] at this
    exact this
  · have := raw_u (mkS (bgL 74756868917217338918917584016587037124861727485050470800130516242174941895364)) (mkS (bgL 104419615249119614659739186697032859710140679125170609451633447793090120850508)) (m32 _ (big32 _)) (m32 _ (big32 _)) W
    rw [rS_n, rE_n _ _ (big32 _) (big32 _)] at this
    exact this
  · have := refLittle_any 0 W
    rw [nv_zero] at this
    exact this
  · have := shared_u (mkS (bgL 74756868917217338918917584016587037124861727485050470800130516242174941895364)) (mkS (ltL 0)) (m32 _ (big32 _)) (m32 _ (lit32 _)) W
    rw [zE_n] at this
    exact this
end Go.Proofs.YtpigofooblmdhaaGreat
/- What the reference's Raw and Shared of layer 3 answer. -/
set_option linter.all false
set_option maxRecDepth 100000
namespace Go.Proofs.YtpigofooblmdhaaGreat
open Go.RowKit Go.Sort
set_option maxHeartbeats 2000000 in
theorem rraw_k (k u : ByteArray) (K E : Int) (hE : ¬ E = 0) (w : World)
    (CK : ∀ W, Calls Tryz.prog 29 #[.string k] W fun e w' => e = .returned (.tuple #[nv K, .int .i64 E]) ∧ Below W.heap.size W w') :
    Calls Tryz.prog 11 #[.string k, .string u] w fun e w' => e = .returned (.tuple #[.string ⟨#[]⟩, .int .i64 E]) ∧ Below w.heap.size w w' := by
  go_enter Tryz.func11, Tryz.ntmps11
  go_wp2_with fail
  refine (CK _).mono ?_
  rintro e w1 ⟨rfl, hb1⟩
  have hB1 := hb1
  have hS1 := hB1.size
  clear hb1 CK
  go_wp2_with fail
  go_returns
  exact ⟨rfl, by go_grown⟩
set_option maxHeartbeats 2000000 in
theorem rraw_e (k u : ByteArray) (K U E : Int) (hE : ¬ E = 0) (w : World)
    (CK : ∀ W, Calls Tryz.prog 29 #[.string k] W fun e w' => e = .returned (.tuple #[nv K, .int .i64 0]) ∧ Below W.heap.size W w')
    (CU : ∀ W, Calls Tryz.prog 16 #[.string u] W fun e w' => e = .returned (.tuple #[nv U, .int .i64 E]) ∧ Below W.heap.size W w') :
    Calls Tryz.prog 11 #[.string k, .string u] w fun e w' => e = .returned (.tuple #[.string ⟨#[]⟩, .int .i64 E]) ∧ Below w.heap.size w w' := by
  go_enter Tryz.func11, Tryz.ntmps11
  go_wp2_with fail
  refine (CK _).mono ?_
  rintro e w1 ⟨rfl, hb1⟩
  have hB1 := hb1
  have hS1 := hB1.size
  clear hb1 CK
  go_wp2_with fail
  refine (CU _).mono ?_
  rintro e w2 ⟨rfl, hb2⟩
  have Ak := (Arr.mk4 (w := w1.alloc (.cells #[.int .u64 (lim K 0), .int .u64 (lim K 1), .int .u64 (lim K 2), .int .u64 (lim K 3)] 34)) (f := fun j => .int .u64 (lim K j)) (b := w1.heap.size) (by simp [go_sem]) (by simp [go_sem]) (by simp [go_sem]) (by simp [go_sem]) (by simp [go_sem]) (by simp [go_sem]) (by simp [go_sem]) (by simp [go_sem])).below hb2 (by go_size)
  have hB2 := Bel.call (Bel.al hB1 (.cells #[.int .u64 (lim K 0), .int .u64 (lim K 1), .int .u64 (lim K 2), .int .u64 (lim K 3)] 34)) hb2
  have hS2 := hB2.size
  have lk := Ak.lt
  have ck := Ak.c
  clear hb2 CU hB1
  go_wp2_with fail
  go_returns
  exact ⟨rfl, by go_grown⟩
theorem rraw_u (k u : ByteArray) (hk : k.size ≤ maxLen) (hu : u.size ≤ maxLen) (w : World) :
    Calls Tryz.prog 11 #[.string k, .string u] w fun e w' => e = .returned (.tuple #[.string (rawS k u), .int .i64 (rawE k u)]) ∧ Below w.heap.size w w' := by
  have ck := fun W => rclamp_u k hk W
  have cu := fun W => rcoord_u u hu W
  unfold rawS rawE
  by_cases h : k.size = 32
  · rw [if_pos h, lenE_yes (by omega)] at ck
    rw [if_pos h]
    by_cases g : u.size = 32
    · rw [if_pos g, lenE_yes (by omega)] at cu
      rw [if_pos ⟨h, g⟩, lenE_yes (by omega)]
      have iU := inn_mod (c5 (flN u))
      have i4 := inn4_sts (c5 (flN u) % pp) iU (upto (cl (flN k)) 255 255)
      refine rraw_core k u _ _ _ _ (xr (cl (flN k)) (c5 (flN u) % pp)) (bw pp 2 4) iU w ck cu (fun W => ?_) (fun W => ?_) (fun W => rmul _ _ i4.1 (inn_mod _) W) (fun W => refLittle_any _ W)
      · have := refSub_raw pp 2 W
        rw [nv_low 2 (by decide) (by decide)] at this
        exact this
      · have := refPow_any _ (pp - 2) pp i4.2.1.1 i4.2.1.2 inn_p2.1 inn_p2.2 inn_pp.1 inn_pp.2 W
        rw [md_pos _ pp_pos] at this
        exact this
    · rw [if_neg (fun c => g c.2)]
      exact rraw_e k u _ _ _ (lenE_nz g) w ck cu
  · rw [if_neg (fun c => h c.1), if_neg h]
    exact rraw_k k u _ _ (lenE_nz h) w ck
end Go.Proofs.YtpigofooblmdhaaGreat
/- What height, isSquare and On of xdh answer, and Public. -/
set_option linter.all false
set_option maxRecDepth 100000
namespace Go.Proofs.YtpigofooblmdhaaGreat
open Go.RowKit Go.Sort
theorem xaddc (B : Int) (iB : Inn B) (w : World) : Calls Tryz.prog 37 #[nv B, .agg #[.int .u64 486662, .int .u64 0, .int .u64 0, .int .u64 0]] w fun e w' => e = .returned (nv (fa B 486662)) ∧ Below w.heap.size w w' := by
  rw [← nv_low 486662 (by decide) (by decide)]; exact xadd B 486662 iB ⟨by decide, by decide⟩ w
theorem xadd1 (B : Int) (iB : Inn B) (w : World) : Calls Tryz.prog 37 #[nv B, .agg #[.int .u64 1, .int .u64 0, .int .u64 0, .int .u64 0]] w fun e w' => e = .returned (nv (fa B 1)) ∧ Below w.heap.size w w' := by
  rw [← nv_low 1 (by decide) (by decide)]; exact xadd B 1 iB ⟨by decide, by decide⟩ w
theorem raddc (B : Int) (iB : Inn B) (w : World) : Calls Tryz.prog 18 #[nv B, .agg #[.int .u64 486662, .int .u64 0, .int .u64 0, .int .u64 0]] w fun e w' => e = .returned (nv (fa B 486662)) ∧ Below w.heap.size w w' := by
  rw [← nv_low 486662 (by decide) (by decide)]; exact radd B 486662 iB ⟨by decide, by decide⟩ w
theorem radd1 (B : Int) (iB : Inn B) (w : World) : Calls Tryz.prog 18 #[nv B, .agg #[.int .u64 1, .int .u64 0, .int .u64 0, .int .u64 0]] w fun e w' => e = .returned (nv (fa B 1)) ∧ Below w.heap.size w w' := by
  rw [← nv_low 1 (by decide) (by decide)]; exact radd B 1 iB ⟨by decide, by decide⟩ w
/-- x^3 + 486662 x^2 + x. -/
def hh (X : Int) : Int := fm X (fa (fm X (fa X 486662)) 1)
set_option maxHeartbeats 4000000 in
theorem height_any (X : Int) (iX : Inn X) (w : World) : Calls Tryz.prog 15 #[nv X] w fun e w' => e = .returned (nv (hh X)) ∧ Below w.heap.size w w' := by
  unfold hh
  go_enter Tryz.func15, Tryz.ntmps15
  go_wp2_with fail
  have Bx := Arr.mk4 (w := ((w.alloc (.cells #[.int .u64 (lim (X) 0), .int .u64 (lim (X) 1), .int .u64 (lim (X) 2), .int .u64 (lim (X) 3)] 34)).alloc (.cells #[.int .u64 0, .int .u64 0, .int .u64 0, .int .u64 0] 34))) (f := fun j => .int .u64 (lim (X) j)) (b := w.heap.size) (by simp [go_sem]) (by simp [go_sem]) (by simp [go_sem]) (by simp [go_sem]) (by simp [go_sem]) (by simp [go_sem]) (by simp [go_sem]) (by simp [go_sem])
  have Bz := Arr.mk4 (w := ((w.alloc (.cells #[.int .u64 (lim (X) 0), .int .u64 (lim (X) 1), .int .u64 (lim (X) 2), .int .u64 (lim (X) 3)] 34)).alloc (.cells #[.int .u64 0, .int .u64 0, .int .u64 0, .int .u64 0] 34))) (f := fun _ => .int .u64 0) (b := w.heap.size + 1) (by simp [go_sem]) (by simp [go_sem]) (by simp [go_sem]) (by simp [go_sem]) (by simp [go_sem]) (by simp [go_sem]) (by simp [go_sem]) (by simp [go_sem])
  have hB' : Below w.heap.size w ((w.alloc (.cells #[.int .u64 (lim (X) 0), .int .u64 (lim (X) 1), .int .u64 (lim (X) 2), .int .u64 (lim (X) 3)] 34)).alloc (.cells #[.int .u64 0, .int .u64 0, .int .u64 0, .int .u64 0] 34)) := by go_grown
  have Ax := Bx
  have Az := Bz
  have hB := hB'
  clear Bx Bz hB'
  apply wp_region_alloc_tail 7 (by kernel_rfl) (by kernel_rfl) (by kernel_rfl) (.cells #[.int .u64 0, .int .u64 0, .int .u64 0, .int .u64 0] 34) _ rfl (fun _ _ => by simp [go_sem])
  · intro W hW
    have rx0 := fun ds os => cell_regrown ((Arr.to' Ax hW).c 0 (by omega)) ds os
    have rx1 := fun ds os => cell_regrown ((Arr.to' Ax hW).c 1 (by omega)) ds os
    have rx2 := fun ds os => cell_regrown ((Arr.to' Ax hW).c 2 (by omega)) ds os
    have rx3 := fun ds os => cell_regrown ((Arr.to' Ax hW).c 3 (by omega)) ds os
    simp only [List.take_succ_cons, List.take_zero]
    repeat (go_big_quiet_step (first | (go_at_call 38; with_reducible exact Calls.regrown_of (xmul _ _ (by first | exact inn_fm _ _ | exact inn_fa _ _ | exact inn_fs _ _ | assumption) (by first | exact inn_fm _ _ | exact inn_fa _ _ | exact inn_fs _ _ | assumption) _)) | (go_at_call 37; with_reducible exact Calls.regrown_of (xaddc _ iX _)) | (go_at_call 37; with_reducible exact Calls.regrown_of (xadd1 _ (inn_fm _ _) _))))
    exact wpQuiet_nil rfl
  intro u1 w11 hb1 hb2
  simp only [List.drop_succ_cons, List.drop_zero, Act.put, List.setIfInBounds_toArray, List.set_cons_succ, List.set_cons_zero]
  have Ex := Arr.to' Ax hb1
  have lx_u1 := Ex.lt
  have Bx := Arr.to' (Arr.al' Ex (.cells #[.int .u64 0, .int .u64 0, .int .u64 0, .int .u64 0] 34)) hb2
  have Ez := Arr.to' Az hb1
  have lz_u1 := Ez.lt
  have Bz := Arr.to' (Arr.al' Ez (.cells #[.int .u64 0, .int .u64 0, .int .u64 0, .int .u64 0] 34)) hb2
  have Bi := (Arr.mk4 (w := (u1.alloc (.cells #[.int .u64 0, .int .u64 0, .int .u64 0, .int .u64 0] 34))) (f := fun _ => .int .u64 0) (b := u1.heap.size) (by simp [go_sem]) (by simp [go_sem]) (by simp [go_sem]) (by simp [go_sem]) (by simp [go_sem]) (by simp [go_sem]) (by simp [go_sem]) (by simp [go_sem])).below hb2 (by go_size)
  have lB_u1 := (Bel.call hB hb1).size
  have hB' := Bel.call (Bel.al (Bel.call hB hb1) (.cells #[.int .u64 0, .int .u64 0, .int .u64 0, .int .u64 0] 34)) hb2
  clear hb1 hb2 Ex Ez Ax Az hB
  have Ax := Bx
  have Az := Bz
  have Ai := Bi
  have hB := hB'
  clear Bx Bz Bi hB'
  have ci := Ai.c
  have zi := Ai.z
  have Bx := Arr.st4o (b' := u1.heap.size) Ax (by have := Ax.lt; have := Ai.lt; omega) (fa (fm X (fa X 486662)) 1)
  have Bz := Arr.st4o (b' := u1.heap.size) Az (by have := Az.lt; have := Ai.lt; omega) (fa (fm X (fa X 486662)) 1)
  have Bi := Arr.st4 Ai (fa (fm X (fa X 486662)) 1)
  have hB' := Bel.st4 hB (b := u1.heap.size) (by have := hB.size; omega) (fa (fm X (fa X 486662)) 1)
  clear Ax Az Ai hB
  have Ax := Bx
  have Az := Bz
  have Ai := Bi
  have hB := hB'
  clear Bx Bz Bi hB'
  have cx := Ax.c
  have cz := Az.c
  have zz := Az.z
  go_wp2_with fail
  refine (xmul X (fa (fm X (fa X 486662)) 1) iX (inn_fa _ _) _).mono ?_
  rintro e w12 ⟨rfl, hb⟩
  have Bz := Arr.to' Az hb
  have hB' := Bel.call hB hb
  clear hb ci zi cx cz zz Ax Az Ai hB
  have Az := Bz
  have hB := hB'
  clear Bz hB'
  have hS := hB.size
  have cz := Az.c
  have zz := Az.z
  go_wp2_with fail
  refine bodyPost_ret (v := nv (fm X (fa (fm X (fa X 486662)) 1))) (by simp [results, Tryz.results15, go_sem, cz]) rfl ⟨rfl, ?_⟩
  go_grown
/-- A number is 0, part by part. -/
def z4 (N : Int) : Bool := lim N 0 == 0 && (lim N 1 == 0 && (lim N 2 == 0 && lim N 3 == 0))
/-- A number is 1, part by part. -/
def o4 (N : Int) : Bool := lim N 0 == 1 && (lim N 1 == 0 && (lim N 2 == 0 && lim N 3 == 0))
section
attribute [local go_sem] eq24
set_option maxHeartbeats 4000000 in
theorem isSquare_0 (H Q P1 R1 er Y : Int) (hz : (lim H 0 == 0 && (lim H 1 == 0 && (lim H 2 == 0 && lim H 3 == 0))) = true) (w : World)
    (CD : ∀ W, Calls Tryz.prog 35 #[nv pp, .agg #[.int .u64 0, .int .u64 0, .int .u64 0, .int .u64 0], .agg #[.int .u64 2, .int .u64 0, .int .u64 0, .int .u64 0]] W fun e w' => e = .returned (.tuple #[nv Q, nv P1, nv R1, .int .i64 er]) ∧ Below W.heap.size W w')
    (CP : ∀ W, Calls Tryz.prog 36 #[nv H, nv Q, nv pp] W fun e w' => e = .returned (nv Y) ∧ Below W.heap.size W w') :
    Calls Tryz.prog 14 #[nv H] w fun e w' => e = .returned (.bool true) ∧ Below w.heap.size w w' := by
  go_enter Tryz.func14, Tryz.ntmps14
  have Bn := Arr.mk4 (w := (w.alloc (.cells #[.int .u64 (lim (H) 0), .int .u64 (lim (H) 1), .int .u64 (lim (H) 2), .int .u64 (lim (H) 3)] 34))) (f := fun j => .int .u64 (lim (H) j)) (b := w.heap.size) (by simp [go_sem]) (by simp [go_sem]) (by simp [go_sem]) (by simp [go_sem]) (by simp [go_sem]) (by simp [go_sem]) (by simp [go_sem]) (by simp [go_sem])
  have hB' : Below w.heap.size w (w.alloc (.cells #[.int .u64 (lim (H) 0), .int .u64 (lim (H) 1), .int .u64 (lim (H) 2), .int .u64 (lim (H) 3)] 34)) := by go_grown
  have An := Bn
  have hB := hB'
  clear Bn hB'
  go_wp2_with fail
  refine (p21 _).mono ?_
  rintro e w1 ⟨rfl, hb⟩
  have Bn := Arr.to' An hb
  have hB' := Bel.call hB hb
  clear hb An hB
  have An := Bn
  have hB := hB'
  clear Bn hB'
  go_wp2_with fail
  refine (CD _).mono ?_
  rintro e w12 ⟨rfl, hb⟩
  have Bn := Arr.to' An hb
  have hB' := Bel.call hB hb
  clear hb An hB CD
  have An := Bn
  have hB := hB'
  clear Bn hB'
  have ln_2 := An.lt
  have lB_2 := hB.size
  have Bn := (Arr.al' (Arr.al' (Arr.al' An (.cells #[.int .u64 (lim (Q) 0), .int .u64 (lim (Q) 1), .int .u64 (lim (Q) 2), .int .u64 (lim (Q) 3)] 34)) (.cells #[.int .u64 (lim (P1) 0), .int .u64 (lim (P1) 1), .int .u64 (lim (P1) 2), .int .u64 (lim (P1) 3)] 34)) (.cells #[.int .u64 (lim (R1) 0), .int .u64 (lim (R1) 1), .int .u64 (lim (R1) 2), .int .u64 (lim (R1) 3)] 34))
  have Bq := Arr.mk4 (w := (((w12.alloc (.cells #[.int .u64 (lim (Q) 0), .int .u64 (lim (Q) 1), .int .u64 (lim (Q) 2), .int .u64 (lim (Q) 3)] 34)).alloc (.cells #[.int .u64 (lim (P1) 0), .int .u64 (lim (P1) 1), .int .u64 (lim (P1) 2), .int .u64 (lim (P1) 3)] 34)).alloc (.cells #[.int .u64 (lim (R1) 0), .int .u64 (lim (R1) 1), .int .u64 (lim (R1) 2), .int .u64 (lim (R1) 3)] 34))) (f := fun j => .int .u64 (lim (Q) j)) (b := w12.heap.size) (by simp [go_sem]) (by simp [go_sem]) (by simp [go_sem]) (by simp [go_sem]) (by simp [go_sem]) (by simp [go_sem]) (by simp [go_sem]) (by simp [go_sem])
  have hB' := (Bel.al (Bel.al (Bel.al hB (.cells #[.int .u64 (lim (Q) 0), .int .u64 (lim (Q) 1), .int .u64 (lim (Q) 2), .int .u64 (lim (Q) 3)] 34)) (.cells #[.int .u64 (lim (P1) 0), .int .u64 (lim (P1) 1), .int .u64 (lim (P1) 2), .int .u64 (lim (P1) 3)] 34)) (.cells #[.int .u64 (lim (R1) 0), .int .u64 (lim (R1) 1), .int .u64 (lim (R1) 2), .int .u64 (lim (R1) 3)] 34))
  clear An hB
  have An := Bn
  have Aq := Bq
  have hB := hB'
  clear Bn Bq hB'
  have rn0 := fun ds os => cell_regrown (An.c 0 (by omega)) ds os
  have rn1 := fun ds os => cell_regrown (An.c 1 (by omega)) ds os
  have rn2 := fun ds os => cell_regrown (An.c 2 (by omega)) ds os
  have rn3 := fun ds os => cell_regrown (An.c 3 (by omega)) ds os
  have rq0 := fun ds os => cell_regrown (Aq.c 0 (by omega)) ds os
  have rq1 := fun ds os => cell_regrown (Aq.c 1 (by omega)) ds os
  have rq2 := fun ds os => cell_regrown (Aq.c 2 (by omega)) ds os
  have rq3 := fun ds os => cell_regrown (Aq.c 3 (by omega)) ds os
  go_wp2_with fail
  refine wp_region_quiet_below (by kernel_rfl) (by kernel_rfl) ?_
  repeat (go_big_quiet_step (first | (go_at_call 34; with_reducible exact Calls.regrown_of (p21 _)) | (go_at_call 36; with_reducible exact Calls.regrown_of (CP _))))
  refine wpQuiet_nil ?_
  intro w3 hw'
  obtain ⟨⟨dq, osq⟩, hw''⟩ := hw'
  have hb := below_of hw''
  clear hw''
  have hB' := Bel.call hB hb
  clear hb rn0 rn1 rn2 rn3 rq0 rq1 rq2 rq3 An Aq hB
  have hB := hB'
  clear hB'
  go_wp2_with fail
  go_ret
  exact ⟨rfl, hB⟩
set_option maxHeartbeats 4000000 in
theorem isSquare_1 (H Q P1 R1 er Y : Int) (hz : (lim H 0 == 0 && (lim H 1 == 0 && (lim H 2 == 0 && lim H 3 == 0))) = false) (w : World)
    (CD : ∀ W, Calls Tryz.prog 35 #[nv pp, .agg #[.int .u64 0, .int .u64 0, .int .u64 0, .int .u64 0], .agg #[.int .u64 2, .int .u64 0, .int .u64 0, .int .u64 0]] W fun e w' => e = .returned (.tuple #[nv Q, nv P1, nv R1, .int .i64 er]) ∧ Below W.heap.size W w')
    (CP : ∀ W, Calls Tryz.prog 36 #[nv H, nv Q, nv pp] W fun e w' => e = .returned (nv Y) ∧ Below W.heap.size W w') :
    Calls Tryz.prog 14 #[nv H] w fun e w' => e = .returned (.bool (lim Y 0 == 1 && (lim Y 1 == 0 && (lim Y 2 == 0 && lim Y 3 == 0)))) ∧ Below w.heap.size w w' := by
  go_enter Tryz.func14, Tryz.ntmps14
  have Bn := Arr.mk4 (w := (w.alloc (.cells #[.int .u64 (lim (H) 0), .int .u64 (lim (H) 1), .int .u64 (lim (H) 2), .int .u64 (lim (H) 3)] 34))) (f := fun j => .int .u64 (lim (H) j)) (b := w.heap.size) (by simp [go_sem]) (by simp [go_sem]) (by simp [go_sem]) (by simp [go_sem]) (by simp [go_sem]) (by simp [go_sem]) (by simp [go_sem]) (by simp [go_sem])
  have hB' : Below w.heap.size w (w.alloc (.cells #[.int .u64 (lim (H) 0), .int .u64 (lim (H) 1), .int .u64 (lim (H) 2), .int .u64 (lim (H) 3)] 34)) := by go_grown
  have An := Bn
  have hB := hB'
  clear Bn hB'
  go_wp2_with fail
  refine (p21 _).mono ?_
  rintro e w1 ⟨rfl, hb⟩
  have Bn := Arr.to' An hb
  have hB' := Bel.call hB hb
  clear hb An hB
  have An := Bn
  have hB := hB'
  clear Bn hB'
  go_wp2_with fail
  refine (CD _).mono ?_
  rintro e w12 ⟨rfl, hb⟩
  have Bn := Arr.to' An hb
  have hB' := Bel.call hB hb
  clear hb An hB CD
  have An := Bn
  have hB := hB'
  clear Bn hB'
  have ln_2 := An.lt
  have lB_2 := hB.size
  have Bn := (Arr.al' (Arr.al' (Arr.al' An (.cells #[.int .u64 (lim (Q) 0), .int .u64 (lim (Q) 1), .int .u64 (lim (Q) 2), .int .u64 (lim (Q) 3)] 34)) (.cells #[.int .u64 (lim (P1) 0), .int .u64 (lim (P1) 1), .int .u64 (lim (P1) 2), .int .u64 (lim (P1) 3)] 34)) (.cells #[.int .u64 (lim (R1) 0), .int .u64 (lim (R1) 1), .int .u64 (lim (R1) 2), .int .u64 (lim (R1) 3)] 34))
  have Bq := Arr.mk4 (w := (((w12.alloc (.cells #[.int .u64 (lim (Q) 0), .int .u64 (lim (Q) 1), .int .u64 (lim (Q) 2), .int .u64 (lim (Q) 3)] 34)).alloc (.cells #[.int .u64 (lim (P1) 0), .int .u64 (lim (P1) 1), .int .u64 (lim (P1) 2), .int .u64 (lim (P1) 3)] 34)).alloc (.cells #[.int .u64 (lim (R1) 0), .int .u64 (lim (R1) 1), .int .u64 (lim (R1) 2), .int .u64 (lim (R1) 3)] 34))) (f := fun j => .int .u64 (lim (Q) j)) (b := w12.heap.size) (by simp [go_sem]) (by simp [go_sem]) (by simp [go_sem]) (by simp [go_sem]) (by simp [go_sem]) (by simp [go_sem]) (by simp [go_sem]) (by simp [go_sem])
  have hB' := (Bel.al (Bel.al (Bel.al hB (.cells #[.int .u64 (lim (Q) 0), .int .u64 (lim (Q) 1), .int .u64 (lim (Q) 2), .int .u64 (lim (Q) 3)] 34)) (.cells #[.int .u64 (lim (P1) 0), .int .u64 (lim (P1) 1), .int .u64 (lim (P1) 2), .int .u64 (lim (P1) 3)] 34)) (.cells #[.int .u64 (lim (R1) 0), .int .u64 (lim (R1) 1), .int .u64 (lim (R1) 2), .int .u64 (lim (R1) 3)] 34))
  clear An hB
  have An := Bn
  have Aq := Bq
  have hB := hB'
  clear Bn Bq hB'
  have rn0 := fun ds os => cell_regrown (An.c 0 (by omega)) ds os
  have rn1 := fun ds os => cell_regrown (An.c 1 (by omega)) ds os
  have rn2 := fun ds os => cell_regrown (An.c 2 (by omega)) ds os
  have rn3 := fun ds os => cell_regrown (An.c 3 (by omega)) ds os
  have rq0 := fun ds os => cell_regrown (Aq.c 0 (by omega)) ds os
  have rq1 := fun ds os => cell_regrown (Aq.c 1 (by omega)) ds os
  have rq2 := fun ds os => cell_regrown (Aq.c 2 (by omega)) ds os
  have rq3 := fun ds os => cell_regrown (Aq.c 3 (by omega)) ds os
  go_wp2_with fail
  refine wp_region_quiet_below (by kernel_rfl) (by kernel_rfl) ?_
  repeat (go_big_quiet_step (first | (go_at_call 34; with_reducible exact Calls.regrown_of (p21 _)) | (go_at_call 36; with_reducible exact Calls.regrown_of (CP _))))
  refine wpQuiet_nil ?_
  intro w3 hw'
  obtain ⟨⟨dq, osq⟩, hw''⟩ := hw'
  have hb := below_of hw''
  clear hw''
  have hB' := Bel.call hB hb
  clear hb rn0 rn1 rn2 rn3 rq0 rq1 rq2 rq3 An Aq hB
  have hB := hB'
  clear hB'
  go_wp2_with fail
  go_ret
  exact ⟨rfl, hB⟩
end
/-- A number is 0, or a square. -/
def sqB (H : Int) : Bool := z4 H || o4 (H ^ (pp / 2).toNat % pp)
theorem inn_half : Inn (pp / 2) := ⟨by decide, by decide⟩
theorem isSquare_any (H : Int) (iH : Inn H) (w : World) : Calls Tryz.prog 14 #[nv H] w fun e w' => e = .returned (.bool (sqB H)) ∧ Below w.heap.size w w' := by
  have cd : ∀ W, Calls Tryz.prog 35 #[nv pp, .agg #[.int .u64 0, .int .u64 0, .int .u64 0, .int .u64 0], .agg #[.int .u64 2, .int .u64 0, .int .u64 0, .int .u64 0]] W fun e w' => e = .returned (.tuple #[nv (pp / 2), nv (pp / 2 / top256), nv (pp % 2), .int .i64 0]) ∧ Below W.heap.size W w' := fun W => by
    have := div_any pp 0 2 inn_pp.1 inn_pp.2 (by omega) (by decide) (by omega) (by decide) W
    rw [nv_zero, nv_low 2 (by decide) (by decide), Int.zero_mul, Int.add_zero] at this
    exact this
  have cp : ∀ W, Calls Tryz.prog 36 #[nv H, nv (pp / 2), nv pp] W fun e w' => e = .returned (nv (H ^ (pp / 2).toNat % pp)) ∧ Below W.heap.size W w' := fun W => by
    have := pow_any H (pp / 2) pp iH.1 iH.2 inn_half.1 inn_half.2 inn_pp.1 inn_pp.2 W
    rw [md_pos _ pp_pos] at this
    exact this
  unfold sqB
  cases hz : z4 H
  · rw [Bool.false_or]
    exact isSquare_1 H _ _ _ _ _ hz w cd cp
  · rw [Bool.true_or]
    exact isSquare_0 H _ _ _ _ _ hz w cd cp
set_option maxHeartbeats 2000000 in
theorem on_no (u : ByteArray) (X E : Int) (hE : ¬ E = 0) (w : World)
    (CC : ∀ W, Calls Tryz.prog 13 #[.string u] W fun e w' => e = .returned (.tuple #[nv X, .int .i64 E]) ∧ Below W.heap.size W w') :
    Calls Tryz.prog 6 #[.string u] w fun e w' => e = .returned (.bool false) ∧ Below w.heap.size w w' := by
  have hE' : (E == 0) = false := by simpa using hE
  go_enter Tryz.func6, Tryz.ntmps6
  go_wp2_with fail
  refine (CC _).mono ?_
  rintro e w1 ⟨rfl, hb⟩
  have hS := hb.size
  go_wp2_with fail
  go_returns
  exact ⟨rfl, Bel.al hb _⟩
set_option maxHeartbeats 2000000 in
theorem on_yes (u : ByteArray) (X H : Int) (b : Bool) (w : World)
    (CC : ∀ W, Calls Tryz.prog 13 #[.string u] W fun e w' => e = .returned (.tuple #[nv X, .int .i64 0]) ∧ Below W.heap.size W w')
    (CH : ∀ W, Calls Tryz.prog 15 #[nv X] W fun e w' => e = .returned (nv H) ∧ Below W.heap.size W w')
    (CQ : ∀ W, Calls Tryz.prog 14 #[nv H] W fun e w' => e = .returned (.bool b) ∧ Below W.heap.size W w') :
    Calls Tryz.prog 6 #[.string u] w fun e w' => e = .returned (.bool b) ∧ Below w.heap.size w w' := by
  go_enter Tryz.func6, Tryz.ntmps6
  go_wp2_with fail
  refine (CC _).mono ?_
  rintro e w1 ⟨rfl, hb⟩
  have hB := hb
  clear hb CC
  go_wp2_with fail
  refine (CH _).mono ?_
  rintro e w2 ⟨rfl, hb⟩
  have hB2 := Bel.call (Bel.al hB _) hb
  clear hb CH hB
  go_wp2_with fail
  refine (CQ _).mono ?_
  rintro e w3 ⟨rfl, hb⟩
  have hB3 := Bel.call hB2 hb
  clear hb CQ hB2
  go_wp2_with fail
  go_returns
  exact ⟨rfl, hB3⟩
/-- On. -/
def onB (u : ByteArray) : Bool := if u.size = 32 then sqB (hh (c5 (flN u) % pp)) else false
theorem on_u (u : ByteArray) (hu : u.size ≤ maxLen) (w : World) : Calls Tryz.prog 6 #[.string u] w fun e w' => e = .returned (.bool (onB u)) ∧ Below w.heap.size w w' := by
  have cu := fun W => coord_u u hu W
  unfold onB
  by_cases g : u.size = 32
  · rw [if_pos g, lenE_yes (by omega)] at cu
    rw [if_pos g]
    exact on_yes u _ _ _ w cu (height_any _ (inn_mod _)) (isSquare_any _ (inn_fm _ _))
  · rw [if_neg g]
    exact on_no u _ _ (lenE_nz g) w cu
set_option maxHeartbeats 2000000 in
theorem pub_core (k z S : ByteArray) (E : Int) (w : World)
    (CL : ∀ W, Calls Tryz.prog 10 #[.agg #[.int .u64 9, .int .u64 0, .int .u64 0, .int .u64 0]] W fun e w' => e = .returned (.string z) ∧ Below W.heap.size W w')
    (CR : ∀ W, Calls Tryz.prog 9 #[.string k, .string z] W fun e w' => e = .returned (.tuple #[.string S, .int .i64 E]) ∧ Below W.heap.size W w') :
    Calls Tryz.prog 4 #[.string k] w fun e w' => e = .returned (.tuple #[.string S, .int .i64 E]) ∧ Below w.heap.size w w' := by
  go_enter Tryz.func4, Tryz.ntmps4
  go_wp2_with fail
  refine (CL _).mono ?_
  rintro e w1 ⟨rfl, hb⟩
  have hB := hb
  clear hb
  go_wp2_with fail
  refine (CR _).mono ?_
  rintro e w2 ⟨rfl, hb⟩
  have hB' := Bel.call hB hb
  clear hb hB
  have hB := hB'
  clear hB'
  go_wp2_with fail
  go_returns
  exact ⟨rfl, hB⟩
set_option maxHeartbeats 2000000 in
theorem nine_core (z : ByteArray) (w : World)
    (CL : ∀ W, Calls Tryz.prog 24 #[.agg #[.int .u64 9, .int .u64 0, .int .u64 0, .int .u64 0]] W fun e w' => e = .returned (.string z) ∧ Below W.heap.size W w') :
    Calls Tryz.prog 12 #[] w fun e w' => e = .returned (.string z) ∧ Below w.heap.size w w' := by
  go_enter Tryz.func12, Tryz.ntmps12
  go_wp2_with fail
  refine (CL _).mono ?_
  rintro e w1 ⟨rfl, hb⟩
  have hB := hb
  clear hb
  go_wp2_with fail
  go_returns
  exact ⟨rfl, hB⟩
set_option maxHeartbeats 2000000 in
theorem rpub_core (k z S : ByteArray) (E : Int) (w : World)
    (CL : ∀ W, Calls Tryz.prog 12 #[] W fun e w' => e = .returned (.string z) ∧ Below W.heap.size W w')
    (CR : ∀ W, Calls Tryz.prog 11 #[.string k, .string z] W fun e w' => e = .returned (.tuple #[.string S, .int .i64 E]) ∧ Below W.heap.size W w') :
    Calls Tryz.prog 5 #[.string k] w fun e w' => e = .returned (.tuple #[.string S, .int .i64 E]) ∧ Below w.heap.size w w' := by
  go_enter Tryz.func5, Tryz.ntmps5
  go_wp2_with fail
  refine (CL _).mono ?_
  rintro e w1 ⟨rfl, hb⟩
  have hB := hb
  clear hb
  go_wp2_with fail
  refine (CR _).mono ?_
  rintro e w2 ⟨rfl, hb⟩
  have hB' := Bel.call hB hb
  clear hb hB
  have hB := hB'
  clear hB'
  go_wp2_with fail
  go_returns
  exact ⟨rfl, hB⟩
theorem pub_u (k : ByteArray) (hk : k.size ≤ maxLen) (w : World) : Calls Tryz.prog 4 #[.string k] w fun e w' => e = .returned (.tuple #[.string (rawS k (mkS (ltL 9))), .int .i64 (rawE k (mkS (ltL 9)))]) ∧ Below w.heap.size w w' := by
  refine pub_core k (mkS (ltL 9)) _ _ w (fun W => ?_) (fun W => raw_u k _ hk (by rw [lit32]; decide) W)
  have := little_any 9 (by omega) (by decide) W
  rw [nv_low 9 (by decide) (by decide)] at this
  exact this
theorem nine_u (w : World) : Calls Tryz.prog 12 #[] w fun e w' => e = .returned (.string (mkS (ltL 9))) ∧ Below w.heap.size w w' := by
  refine nine_core _ w fun W => ?_
  have := refLittle_any 9 W
  rw [nv_low 9 (by decide) (by decide)] at this
  exact this
theorem rpub_u (k : ByteArray) (hk : k.size ≤ maxLen) (w : World) : Calls Tryz.prog 5 #[.string k] w fun e w' => e = .returned (.tuple #[.string (rawS k (mkS (ltL 9))), .int .i64 (rawE k (mkS (ltL 9)))]) ∧ Below w.heap.size w w' :=
  rpub_core k (mkS (ltL 9)) _ _ w nine_u (fun W => rraw_u k _ hk (by rw [lit32]; decide) W)
end Go.Proofs.YtpigofooblmdhaaGreat
/- What the reference's On answers. -/
set_option linter.all false
set_option maxRecDepth 100000
namespace Go.Proofs.YtpigofooblmdhaaGreat
open Go.RowKit Go.Sort
theorem b_and1 (z : Int) (h0 : 0 ≤ z) (h1 : z < 18446744073709551616) : bits .and .u64 z 1 = z % 2 := by go_bits2
set_option maxHeartbeats 2000000 in
theorem ron_no (u : ByteArray) (X E : Int) (hE : ¬ E = 0) (w : World)
    (CC : ∀ W, Calls Tryz.prog 16 #[.string u] W fun e w' => e = .returned (.tuple #[nv X, .int .i64 E]) ∧ Below W.heap.size W w') :
    Calls Tryz.prog 7 #[.string u] w fun e w' => e = .returned (.bool false) ∧ Below w.heap.size w w' := by
  have hE' : (E == 0) = false := by simpa using hE
  go_enter Tryz.func7, Tryz.ntmps7
  go_wp2_with fail
  refine (CC _).mono ?_
  rintro e w1 ⟨rfl, hb⟩
  have hS := hb.size
  go_wp2_with fail
  go_returns
  exact ⟨rfl, Bel.al hb _⟩
section
attribute [local go_sem] eq24
set_option maxHeartbeats 8000000 in
theorem ron_0 (u : ByteArray) (X Y bo : Int) (iX : Inn X) (hz : (lim (fm X (fa (fm X (fa X 486662)) 1)) 0 == 0 && (lim (fm X (fa (fm X (fa X 486662)) 1)) 1 == 0 && (lim (fm X (fa (fm X (fa X 486662)) 1)) 2 == 0 && lim (fm X (fa (fm X (fa X 486662)) 1)) 3 == 0))) = true) (w : World)
    (CC : ∀ W, Calls Tryz.prog 16 #[.string u] W fun e w' => e = .returned (.tuple #[nv X, .int .i64 0]) ∧ Below W.heap.size W w')
    (CS : ∀ W, Calls Tryz.prog 19 #[nv pp, .agg #[.int .u64 1, .int .u64 0, .int .u64 0, .int .u64 0]] W fun e w' => e = .returned (.tuple #[nv (pp - 1), .int .u64 bo]) ∧ Below W.heap.size W w')
    (CP : ∀ W, Calls Tryz.prog 21 #[nv (fm X (fa (fm X (fa X 486662)) 1)), nv ((pp - 1) / 2), nv pp] W fun e w' => e = .returned (nv Y) ∧ Below W.heap.size W w') :
    Calls Tryz.prog 7 #[.string u] w fun e w' => e = .returned (.bool true) ∧ Below w.heap.size w w' := by
  go_enter Tryz.func7, Tryz.ntmps7
  go_wp2_with fail
  refine (CC _).mono ?_
  rintro e w1 ⟨rfl, hb⟩
  have hB := hb
  clear hb CC
  have lB_1 := hB.size
  have Bx := Arr.mk4 (w := (w1.alloc (.cells #[.int .u64 (lim (X) 0), .int .u64 (lim (X) 1), .int .u64 (lim (X) 2), .int .u64 (lim (X) 3)] 34))) (f := fun j => .int .u64 (lim (X) j)) (b := w1.heap.size) (by simp [go_sem]) (by simp [go_sem]) (by simp [go_sem]) (by simp [go_sem]) (by simp [go_sem]) (by simp [go_sem]) (by simp [go_sem]) (by simp [go_sem])
  have hB' := (Bel.al hB (.cells #[.int .u64 (lim (X) 0), .int .u64 (lim (X) 1), .int .u64 (lim (X) 2), .int .u64 (lim (X) 3)] 34))
  clear hB
  have Ax := Bx
  have hB := hB'
  clear Bx hB'
  go_wp2_with fail
  apply wp_region_alloc_tail 9 (by kernel_rfl) (by kernel_rfl) (by kernel_rfl) (.cells #[.int .u64 0, .int .u64 0, .int .u64 0, .int .u64 0] 34) _ rfl (fun _ _ => by simp [go_sem])
  · intro W hW
    have rx0 := fun ds os => cell_regrown ((Arr.to' Ax hW).c 0 (by omega)) ds os
    have rx1 := fun ds os => cell_regrown ((Arr.to' Ax hW).c 1 (by omega)) ds os
    have rx2 := fun ds os => cell_regrown ((Arr.to' Ax hW).c 2 (by omega)) ds os
    have rx3 := fun ds os => cell_regrown ((Arr.to' Ax hW).c 3 (by omega)) ds os
    simp only [List.take_succ_cons, List.take_zero]
    repeat (go_big_quiet_step (first | (go_at_call 17; with_reducible exact Calls.regrown_of (rmul _ _ (by first | exact inn_fm _ _ | exact inn_fa _ _ | exact inn_fs _ _ | assumption) (by first | exact inn_fm _ _ | exact inn_fa _ _ | exact inn_fs _ _ | assumption) _)) | (go_at_call 18; with_reducible exact Calls.regrown_of (raddc _ iX _)) | (go_at_call 18; with_reducible exact Calls.regrown_of (radd1 _ (inn_fm _ _) _))))
    exact wpQuiet_nil rfl
  intro u2 w12 hb1 hb2
  simp only [List.drop_succ_cons, List.drop_zero, Act.put, List.setIfInBounds_toArray, List.set_cons_succ, List.set_cons_zero]
  have Ex := Arr.to' Ax hb1
  have lx_u2 := Ex.lt
  have Bx := Arr.to' (Arr.al' Ex (.cells #[.int .u64 0, .int .u64 0, .int .u64 0, .int .u64 0] 34)) hb2
  have By := (Arr.mk4 (w := (u2.alloc (.cells #[.int .u64 0, .int .u64 0, .int .u64 0, .int .u64 0] 34))) (f := fun _ => .int .u64 0) (b := u2.heap.size) (by simp [go_sem]) (by simp [go_sem]) (by simp [go_sem]) (by simp [go_sem]) (by simp [go_sem]) (by simp [go_sem]) (by simp [go_sem]) (by simp [go_sem])).below hb2 (by go_size)
  have lB_u2 := (Bel.call hB hb1).size
  have hB' := Bel.call (Bel.al (Bel.call hB hb1) (.cells #[.int .u64 0, .int .u64 0, .int .u64 0, .int .u64 0] 34)) hb2
  clear hb1 hb2 Ex Ax hB
  have Ax := Bx
  have Ay := By
  have hB := hB'
  clear Bx By hB'
  have cy := Ay.c
  have zy := Ay.z
  have Bx := Arr.st4o (b' := u2.heap.size) Ax (by have := Ax.lt; have := Ay.lt; omega) (fm X (fa (fm X (fa X 486662)) 1))
  have By := Arr.st4 Ay (fm X (fa (fm X (fa X 486662)) 1))
  have hB' := Bel.st4 hB (b := u2.heap.size) (by have := hB.size; omega) (fm X (fa (fm X (fa X 486662)) 1))
  clear Ax Ay hB
  have Ax := Bx
  have Ay := By
  have hB := hB'
  clear Bx By hB'
  go_wp2_with fail
  refine (p79 _).mono ?_
  rintro e w13 ⟨rfl, hb⟩
  have By := Arr.to' Ay hb
  have hB' := Bel.call hB hb
  clear hb cy zy Ax Ay hB
  have Ay := By
  have hB := hB'
  clear By hB'
  go_wp2_with fail
  refine (CS _).mono ?_
  rintro e w20 ⟨rfl, hb⟩
  have By := Arr.to' Ay hb
  have hB' := Bel.call hB hb
  clear hb Ay hB CS
  have Ay := By
  have hB := hB'
  clear By hB'
  have hS := hB.size
  have lY := Ay.lt
  go_wp2_with fail
  go_loopw [8] (fun i wr => ∃ k : Nat, k ≤ 4 ∧ i = .int .i64 k ∧ Below w.heap.size w wr ∧ w20.heap.size < wr.heap.size ∧ Arr wr u2.heap.size 4 (fun j => .int .u64 (lim (fm X (fa (fm X (fa X 486662)) 1)) j)) ∧ Arr wr w20.heap.size 4 (hv (pp - 1) k)) (fun i _ => 4 - (intOf i).toNat)
  case atStart => exact ⟨0, by omega, rfl, Bel.al hB _, by go_size, Arr.al' Ay _, Arr.mk4 (by simp [go_sem, hv]) (by simp [go_sem, hv]) (by simp [go_sem, hv]) (by simp [go_sem, hv]) (by simp [go_sem]) (by simp [go_sem]) (by simp [go_sem]) (by simp [go_sem])⟩
  case round =>
    clear hB Ay
    obtain ⟨k, hk, rfl, hB, hs, AY, AR⟩ := hrel
    by_cases hlt : k < 4
    · have k0 : (0 : Int) ≤ (k : Int) := by omega
      have k4 : (k : Int) < 4 := by omega
      have rk : wr.cell? ⟨w20.heap.size, k, none⟩ = some (.int .u64 (lim (pp - 1) k)) := by rw [AR.c k hlt, hv, if_neg (by omega)]
      have zk := AR.z k hlt
      by_cases h3 : k < 3
      · have k3 : (k : Int) < 3 := by omega
        have hw1 : IntKind.i64.wrap ((k : Int) + 1) = (k : Int) + 1 := by rw [IntKind.wrap_i64]; omega
        have tn : ((k : Int) + 1).toNat = k + 1 := by omega
        have rn : ∀ v, (wr.setCell ⟨w20.heap.size, k, none⟩ v).cell? ⟨w20.heap.size, k + 1, none⟩ = some (.int .u64 (lim (pp - 1) (k + 1))) := fun v => by
          rw [(AR.set k hlt v).c (k + 1) (by omega), if_neg (by omega), hv, if_neg (by omega)]
        have lh := lim_half (pp - 1) k
        have J' : bits .or .u64 (lim (pp - 1) k / 2) (IntKind.u64.wrap (bits .and .u64 (lim (pp - 1) (k + 1)) 1 * 9223372036854775808)) = lim ((pp - 1) / 2) k := by
          rw [lh, b_and1 _ (lim_nn _ _) (lim_lt _ _)]
          have J := or_join (lim (pp - 1) k) (lim (pp - 1) (k + 1) % 2) 1 (by omega) (lim_nn _ _) (lim_lt _ _) (by omega)
          simpa using J
        have HAY : Hid (∀ v v' : Value, Arr ((wr.setCell ⟨w20.heap.size, k, none⟩ v).setCell ⟨w20.heap.size, k, none⟩ v') u2.heap.size 4 (fun j => .int .u64 (lim (fm X (fa (fm X (fa X 486662)) 1)) j))) := fun v v' => (AY.other (by omega) v).other (by omega) v'
        have HAR : Hid (∀ v : Value, Arr ((wr.setCell ⟨w20.heap.size, k, none⟩ v).setCell ⟨w20.heap.size, k, none⟩ (.int .u64 (lim ((pp - 1) / 2) k))) w20.heap.size 4 (hv (pp - 1) (k + 1))) := fun v =>
          ((AR.set k hlt v).set k hlt (.int .u64 (lim ((pp - 1) / 2) k))).congr (by
            intro j hj
            by_cases e : j = k
            · rw [if_pos e, hv, if_pos (by omega), e]
            · rw [if_neg e, if_neg e]; unfold hv
              by_cases e2 : j < k
              · rw [if_pos e2, if_pos (by omega)]
              · rw [if_neg e2, if_neg (by omega)])
        clear AR AY lh
        go_wp2_with fail
        go_region
        all_goals
          go_wp2_with fail
          go_roundw
          case rel => exact ⟨k + 1, by omega, by go_num, ((hB.setCell (by show w.heap.size ≤ w20.heap.size; omega) _).setCell (by show w.heap.size ≤ w20.heap.size; omega) _).drew, by simpa [size_set] using hs, HAY.out _ _, HAR.out _⟩
          case measure => simp [intOf]; omega
      · have k3 : k = 3 := by omega
        subst k3
        have lh := lim_half (pp - 1) 3
        have l4 : lim (pp - 1) 4 = 0 := by decide
        have J' : lim (pp - 1) 3 / 2 = lim ((pp - 1) / 2) 3 := by rw [lh, l4]; omega
        have HAY : Hid (∀ v : Value, Arr (wr.setCell ⟨w20.heap.size, 3, none⟩ v) u2.heap.size 4 (fun j => .int .u64 (lim (fm X (fa (fm X (fa X 486662)) 1)) j))) := fun v => AY.other (by omega) v
        have HAR : Hid (Arr (wr.setCell ⟨w20.heap.size, 3, none⟩ (.int .u64 (lim ((pp - 1) / 2) 3))) w20.heap.size 4 (hv (pp - 1) 4)) :=
          (AR.set 3 hlt (.int .u64 (lim ((pp - 1) / 2) 3))).congr (by
            intro j hj
            by_cases e : j = 3
            · rw [if_pos e, hv, if_pos (by omega), e]
            · rw [if_neg e]; unfold hv
              rw [if_pos (by omega), if_pos (by omega)])
        clear AR AY lh l4
        go_wp2_with fail
        go_roundw
        case rel => exact ⟨4, by omega, by go_num, hB.setCell (by show w.heap.size ≤ w20.heap.size; omega) _, by simpa [size_set] using hs, HAY.out _, HAR.out⟩
        case measure => simp [intOf]
    · have k4 : k = 4 := by omega
      subst k4
      have Ay := AY
      have Ah : Arr wr w20.heap.size 4 (fun j => .int .u64 (lim ((pp - 1) / 2) j)) := AR.congr (by intro j hj; rw [hv, if_pos hj])
      clear AR AY
      go_wp2_with fail
      apply wp_region_alloc_tail 4 (by kernel_rfl) (by kernel_rfl) (by kernel_rfl) (.cells #[.int .u64 0, .int .u64 0, .int .u64 0, .int .u64 0] 34) _ rfl (fun _ _ => by simp [go_sem])
      · intro W hW
        have ry0 := fun ds os => cell_regrown ((Arr.to' Ay hW).c 0 (by omega)) ds os
        have ry1 := fun ds os => cell_regrown ((Arr.to' Ay hW).c 1 (by omega)) ds os
        have ry2 := fun ds os => cell_regrown ((Arr.to' Ay hW).c 2 (by omega)) ds os
        have ry3 := fun ds os => cell_regrown ((Arr.to' Ay hW).c 3 (by omega)) ds os
        have rh0 := fun ds os => cell_regrown ((Arr.to' Ah hW).c 0 (by omega)) ds os
        have rh1 := fun ds os => cell_regrown ((Arr.to' Ah hW).c 1 (by omega)) ds os
        have rh2 := fun ds os => cell_regrown ((Arr.to' Ah hW).c 2 (by omega)) ds os
        have rh3 := fun ds os => cell_regrown ((Arr.to' Ah hW).c 3 (by omega)) ds os
        simp only [List.take_succ_cons, List.take_zero]
        repeat (go_big_quiet_step (first | (go_at_call 20; with_reducible exact Calls.regrown_of (p79 _)) | (go_at_call 21; with_reducible exact Calls.regrown_of (CP _))))
        exact wpQuiet_nil rfl
      intro u4 w14 hb1 hb2
      simp only [List.drop_succ_cons, List.drop_zero, Act.put, List.setIfInBounds_toArray, List.set_cons_succ, List.set_cons_zero]
      have Ey := Arr.to' Ay hb1
      have ly_u4 := Ey.lt
      have By := Arr.to' (Arr.al' Ey (.cells #[.int .u64 0, .int .u64 0, .int .u64 0, .int .u64 0] 34)) hb2
      have Bs := (Arr.mk4 (w := (u4.alloc (.cells #[.int .u64 0, .int .u64 0, .int .u64 0, .int .u64 0] 34))) (f := fun _ => .int .u64 0) (b := u4.heap.size) (by simp [go_sem]) (by simp [go_sem]) (by simp [go_sem]) (by simp [go_sem]) (by simp [go_sem]) (by simp [go_sem]) (by simp [go_sem]) (by simp [go_sem])).below hb2 (by go_size)
      have lB_u4 := (Bel.call hB hb1).size
      have hB' := Bel.call (Bel.al (Bel.call hB hb1) (.cells #[.int .u64 0, .int .u64 0, .int .u64 0, .int .u64 0] 34)) hb2
      clear hb1 hb2 Ey Ay Ah hB CP
      have Ay := By
      have As := Bs
      have hB := hB'
      clear By Bs hB'
      have cs := As.c
      have zs := As.z
      have By := Arr.st4o (b' := u4.heap.size) Ay (by have := Ay.lt; have := As.lt; omega) (Y)
      have Bs := Arr.st4 As (Y)
      have hB' := Bel.st4 hB (b := u4.heap.size) (by have := hB.size; omega) (Y)
      clear Ay As hB
      have Ay := By
      have As := Bs
      have hB := hB'
      clear By Bs hB'
      have cy := Ay.c
      go_wp2_with fail
      go_ret
      exact ⟨rfl, hB⟩
end
section
attribute [local go_sem] eq24
set_option maxHeartbeats 8000000 in
theorem ron_1 (u : ByteArray) (X Y bo : Int) (iX : Inn X) (hz : (lim (fm X (fa (fm X (fa X 486662)) 1)) 0 == 0 && (lim (fm X (fa (fm X (fa X 486662)) 1)) 1 == 0 && (lim (fm X (fa (fm X (fa X 486662)) 1)) 2 == 0 && lim (fm X (fa (fm X (fa X 486662)) 1)) 3 == 0))) = false) (w : World)
    (CC : ∀ W, Calls Tryz.prog 16 #[.string u] W fun e w' => e = .returned (.tuple #[nv X, .int .i64 0]) ∧ Below W.heap.size W w')
    (CS : ∀ W, Calls Tryz.prog 19 #[nv pp, .agg #[.int .u64 1, .int .u64 0, .int .u64 0, .int .u64 0]] W fun e w' => e = .returned (.tuple #[nv (pp - 1), .int .u64 bo]) ∧ Below W.heap.size W w')
    (CP : ∀ W, Calls Tryz.prog 21 #[nv (fm X (fa (fm X (fa X 486662)) 1)), nv ((pp - 1) / 2), nv pp] W fun e w' => e = .returned (nv Y) ∧ Below W.heap.size W w') :
    Calls Tryz.prog 7 #[.string u] w fun e w' => e = .returned (.bool (lim Y 0 == 1 && (lim Y 1 == 0 && (lim Y 2 == 0 && lim Y 3 == 0)))) ∧ Below w.heap.size w w' := by
  go_enter Tryz.func7, Tryz.ntmps7
  go_wp2_with fail
  refine (CC _).mono ?_
  rintro e w1 ⟨rfl, hb⟩
  have hB := hb
  clear hb CC
  have lB_1 := hB.size
  have Bx := Arr.mk4 (w := (w1.alloc (.cells #[.int .u64 (lim (X) 0), .int .u64 (lim (X) 1), .int .u64 (lim (X) 2), .int .u64 (lim (X) 3)] 34))) (f := fun j => .int .u64 (lim (X) j)) (b := w1.heap.size) (by simp [go_sem]) (by simp [go_sem]) (by simp [go_sem]) (by simp [go_sem]) (by simp [go_sem]) (by simp [go_sem]) (by simp [go_sem]) (by simp [go_sem])
  have hB' := (Bel.al hB (.cells #[.int .u64 (lim (X) 0), .int .u64 (lim (X) 1), .int .u64 (lim (X) 2), .int .u64 (lim (X) 3)] 34))
  clear hB
  have Ax := Bx
  have hB := hB'
  clear Bx hB'
  go_wp2_with fail
  apply wp_region_alloc_tail 9 (by kernel_rfl) (by kernel_rfl) (by kernel_rfl) (.cells #[.int .u64 0, .int .u64 0, .int .u64 0, .int .u64 0] 34) _ rfl (fun _ _ => by simp [go_sem])
  · intro W hW
    have rx0 := fun ds os => cell_regrown ((Arr.to' Ax hW).c 0 (by omega)) ds os
    have rx1 := fun ds os => cell_regrown ((Arr.to' Ax hW).c 1 (by omega)) ds os
    have rx2 := fun ds os => cell_regrown ((Arr.to' Ax hW).c 2 (by omega)) ds os
    have rx3 := fun ds os => cell_regrown ((Arr.to' Ax hW).c 3 (by omega)) ds os
    simp only [List.take_succ_cons, List.take_zero]
    repeat (go_big_quiet_step (first | (go_at_call 17; with_reducible exact Calls.regrown_of (rmul _ _ (by first | exact inn_fm _ _ | exact inn_fa _ _ | exact inn_fs _ _ | assumption) (by first | exact inn_fm _ _ | exact inn_fa _ _ | exact inn_fs _ _ | assumption) _)) | (go_at_call 18; with_reducible exact Calls.regrown_of (raddc _ iX _)) | (go_at_call 18; with_reducible exact Calls.regrown_of (radd1 _ (inn_fm _ _) _))))
    exact wpQuiet_nil rfl
  intro u2 w12 hb1 hb2
  simp only [List.drop_succ_cons, List.drop_zero, Act.put, List.setIfInBounds_toArray, List.set_cons_succ, List.set_cons_zero]
  have Ex := Arr.to' Ax hb1
  have lx_u2 := Ex.lt
  have Bx := Arr.to' (Arr.al' Ex (.cells #[.int .u64 0, .int .u64 0, .int .u64 0, .int .u64 0] 34)) hb2
  have By := (Arr.mk4 (w := (u2.alloc (.cells #[.int .u64 0, .int .u64 0, .int .u64 0, .int .u64 0] 34))) (f := fun _ => .int .u64 0) (b := u2.heap.size) (by simp [go_sem]) (by simp [go_sem]) (by simp [go_sem]) (by simp [go_sem]) (by simp [go_sem]) (by simp [go_sem]) (by simp [go_sem]) (by simp [go_sem])).below hb2 (by go_size)
  have lB_u2 := (Bel.call hB hb1).size
  have hB' := Bel.call (Bel.al (Bel.call hB hb1) (.cells #[.int .u64 0, .int .u64 0, .int .u64 0, .int .u64 0] 34)) hb2
  clear hb1 hb2 Ex Ax hB
  have Ax := Bx
  have Ay := By
  have hB := hB'
  clear Bx By hB'
  have cy := Ay.c
  have zy := Ay.z
  have Bx := Arr.st4o (b' := u2.heap.size) Ax (by have := Ax.lt; have := Ay.lt; omega) (fm X (fa (fm X (fa X 486662)) 1))
  have By := Arr.st4 Ay (fm X (fa (fm X (fa X 486662)) 1))
  have hB' := Bel.st4 hB (b := u2.heap.size) (by have := hB.size; omega) (fm X (fa (fm X (fa X 486662)) 1))
  clear Ax Ay hB
  have Ax := Bx
  have Ay := By
  have hB := hB'
  clear Bx By hB'
  go_wp2_with fail
  refine (p79 _).mono ?_
  rintro e w13 ⟨rfl, hb⟩
  have By := Arr.to' Ay hb
  have hB' := Bel.call hB hb
  clear hb cy zy Ax Ay hB
  have Ay := By
  have hB := hB'
  clear By hB'
  go_wp2_with fail
  refine (CS _).mono ?_
  rintro e w20 ⟨rfl, hb⟩
  have By := Arr.to' Ay hb
  have hB' := Bel.call hB hb
  clear hb Ay hB CS
  have Ay := By
  have hB := hB'
  clear By hB'
  have hS := hB.size
  have lY := Ay.lt
  go_wp2_with fail
  go_loopw [8] (fun i wr => ∃ k : Nat, k ≤ 4 ∧ i = .int .i64 k ∧ Below w.heap.size w wr ∧ w20.heap.size < wr.heap.size ∧ Arr wr u2.heap.size 4 (fun j => .int .u64 (lim (fm X (fa (fm X (fa X 486662)) 1)) j)) ∧ Arr wr w20.heap.size 4 (hv (pp - 1) k)) (fun i _ => 4 - (intOf i).toNat)
  case atStart => exact ⟨0, by omega, rfl, Bel.al hB _, by go_size, Arr.al' Ay _, Arr.mk4 (by simp [go_sem, hv]) (by simp [go_sem, hv]) (by simp [go_sem, hv]) (by simp [go_sem, hv]) (by simp [go_sem]) (by simp [go_sem]) (by simp [go_sem]) (by simp [go_sem])⟩
  case round =>
    clear hB Ay
    obtain ⟨k, hk, rfl, hB, hs, AY, AR⟩ := hrel
    by_cases hlt : k < 4
    · have k0 : (0 : Int) ≤ (k : Int) := by omega
      have k4 : (k : Int) < 4 := by omega
      have rk : wr.cell? ⟨w20.heap.size, k, none⟩ = some (.int .u64 (lim (pp - 1) k)) := by rw [AR.c k hlt, hv, if_neg (by omega)]
      have zk := AR.z k hlt
      by_cases h3 : k < 3
      · have k3 : (k : Int) < 3 := by omega
        have hw1 : IntKind.i64.wrap ((k : Int) + 1) = (k : Int) + 1 := by rw [IntKind.wrap_i64]; omega
        have tn : ((k : Int) + 1).toNat = k + 1 := by omega
        have rn : ∀ v, (wr.setCell ⟨w20.heap.size, k, none⟩ v).cell? ⟨w20.heap.size, k + 1, none⟩ = some (.int .u64 (lim (pp - 1) (k + 1))) := fun v => by
          rw [(AR.set k hlt v).c (k + 1) (by omega), if_neg (by omega), hv, if_neg (by omega)]
        have lh := lim_half (pp - 1) k
        have J' : bits .or .u64 (lim (pp - 1) k / 2) (IntKind.u64.wrap (bits .and .u64 (lim (pp - 1) (k + 1)) 1 * 9223372036854775808)) = lim ((pp - 1) / 2) k := by
          rw [lh, b_and1 _ (lim_nn _ _) (lim_lt _ _)]
          have J := or_join (lim (pp - 1) k) (lim (pp - 1) (k + 1) % 2) 1 (by omega) (lim_nn _ _) (lim_lt _ _) (by omega)
          simpa using J
        have HAY : Hid (∀ v v' : Value, Arr ((wr.setCell ⟨w20.heap.size, k, none⟩ v).setCell ⟨w20.heap.size, k, none⟩ v') u2.heap.size 4 (fun j => .int .u64 (lim (fm X (fa (fm X (fa X 486662)) 1)) j))) := fun v v' => (AY.other (by omega) v).other (by omega) v'
        have HAR : Hid (∀ v : Value, Arr ((wr.setCell ⟨w20.heap.size, k, none⟩ v).setCell ⟨w20.heap.size, k, none⟩ (.int .u64 (lim ((pp - 1) / 2) k))) w20.heap.size 4 (hv (pp - 1) (k + 1))) := fun v =>
          ((AR.set k hlt v).set k hlt (.int .u64 (lim ((pp - 1) / 2) k))).congr (by
            intro j hj
            by_cases e : j = k
            · rw [if_pos e, hv, if_pos (by omega), e]
            · rw [if_neg e, if_neg e]; unfold hv
              by_cases e2 : j < k
              · rw [if_pos e2, if_pos (by omega)]
              · rw [if_neg e2, if_neg (by omega)])
        clear AR AY lh
        go_wp2_with fail
        go_region
        all_goals
          go_wp2_with fail
          go_roundw
          case rel => exact ⟨k + 1, by omega, by go_num, ((hB.setCell (by show w.heap.size ≤ w20.heap.size; omega) _).setCell (by show w.heap.size ≤ w20.heap.size; omega) _).drew, by simpa [size_set] using hs, HAY.out _ _, HAR.out _⟩
          case measure => simp [intOf]; omega
      · have k3 : k = 3 := by omega
        subst k3
        have lh := lim_half (pp - 1) 3
        have l4 : lim (pp - 1) 4 = 0 := by decide
        have J' : lim (pp - 1) 3 / 2 = lim ((pp - 1) / 2) 3 := by rw [lh, l4]; omega
        have HAY : Hid (∀ v : Value, Arr (wr.setCell ⟨w20.heap.size, 3, none⟩ v) u2.heap.size 4 (fun j => .int .u64 (lim (fm X (fa (fm X (fa X 486662)) 1)) j))) := fun v => AY.other (by omega) v
        have HAR : Hid (Arr (wr.setCell ⟨w20.heap.size, 3, none⟩ (.int .u64 (lim ((pp - 1) / 2) 3))) w20.heap.size 4 (hv (pp - 1) 4)) :=
          (AR.set 3 hlt (.int .u64 (lim ((pp - 1) / 2) 3))).congr (by
            intro j hj
            by_cases e : j = 3
            · rw [if_pos e, hv, if_pos (by omega), e]
            · rw [if_neg e]; unfold hv
              rw [if_pos (by omega), if_pos (by omega)])
        clear AR AY lh l4
        go_wp2_with fail
        go_roundw
        case rel => exact ⟨4, by omega, by go_num, hB.setCell (by show w.heap.size ≤ w20.heap.size; omega) _, by simpa [size_set] using hs, HAY.out _, HAR.out⟩
        case measure => simp [intOf]
    · have k4 : k = 4 := by omega
      subst k4
      have Ay := AY
      have Ah : Arr wr w20.heap.size 4 (fun j => .int .u64 (lim ((pp - 1) / 2) j)) := AR.congr (by intro j hj; rw [hv, if_pos hj])
      clear AR AY
      go_wp2_with fail
      apply wp_region_alloc_tail 4 (by kernel_rfl) (by kernel_rfl) (by kernel_rfl) (.cells #[.int .u64 0, .int .u64 0, .int .u64 0, .int .u64 0] 34) _ rfl (fun _ _ => by simp [go_sem])
      · intro W hW
        have ry0 := fun ds os => cell_regrown ((Arr.to' Ay hW).c 0 (by omega)) ds os
        have ry1 := fun ds os => cell_regrown ((Arr.to' Ay hW).c 1 (by omega)) ds os
        have ry2 := fun ds os => cell_regrown ((Arr.to' Ay hW).c 2 (by omega)) ds os
        have ry3 := fun ds os => cell_regrown ((Arr.to' Ay hW).c 3 (by omega)) ds os
        have rh0 := fun ds os => cell_regrown ((Arr.to' Ah hW).c 0 (by omega)) ds os
        have rh1 := fun ds os => cell_regrown ((Arr.to' Ah hW).c 1 (by omega)) ds os
        have rh2 := fun ds os => cell_regrown ((Arr.to' Ah hW).c 2 (by omega)) ds os
        have rh3 := fun ds os => cell_regrown ((Arr.to' Ah hW).c 3 (by omega)) ds os
        simp only [List.take_succ_cons, List.take_zero]
        repeat (go_big_quiet_step (first | (go_at_call 20; with_reducible exact Calls.regrown_of (p79 _)) | (go_at_call 21; with_reducible exact Calls.regrown_of (CP _))))
        exact wpQuiet_nil rfl
      intro u4 w14 hb1 hb2
      simp only [List.drop_succ_cons, List.drop_zero, Act.put, List.setIfInBounds_toArray, List.set_cons_succ, List.set_cons_zero]
      have Ey := Arr.to' Ay hb1
      have ly_u4 := Ey.lt
      have By := Arr.to' (Arr.al' Ey (.cells #[.int .u64 0, .int .u64 0, .int .u64 0, .int .u64 0] 34)) hb2
      have Bs := (Arr.mk4 (w := (u4.alloc (.cells #[.int .u64 0, .int .u64 0, .int .u64 0, .int .u64 0] 34))) (f := fun _ => .int .u64 0) (b := u4.heap.size) (by simp [go_sem]) (by simp [go_sem]) (by simp [go_sem]) (by simp [go_sem]) (by simp [go_sem]) (by simp [go_sem]) (by simp [go_sem]) (by simp [go_sem])).below hb2 (by go_size)
      have lB_u4 := (Bel.call hB hb1).size
      have hB' := Bel.call (Bel.al (Bel.call hB hb1) (.cells #[.int .u64 0, .int .u64 0, .int .u64 0, .int .u64 0] 34)) hb2
      clear hb1 hb2 Ey Ay Ah hB CP
      have Ay := By
      have As := Bs
      have hB := hB'
      clear By Bs hB'
      have cs := As.c
      have zs := As.z
      have By := Arr.st4o (b' := u4.heap.size) Ay (by have := Ay.lt; have := As.lt; omega) (Y)
      have Bs := Arr.st4 As (Y)
      have hB' := Bel.st4 hB (b := u4.heap.size) (by have := hB.size; omega) (Y)
      clear Ay As hB
      have Ay := By
      have As := Bs
      have hB := hB'
      clear By Bs hB'
      have cy := Ay.c
      go_wp2_with fail
      go_ret
      exact ⟨rfl, hB⟩
end
theorem ron_u (u : ByteArray) (hu : u.size ≤ maxLen) (w : World) : Calls Tryz.prog 7 #[.string u] w fun e w' => e = .returned (.bool (onB u)) ∧ Below w.heap.size w w' := by
  have cu := fun W => rcoord_u u hu W
  unfold onB
  by_cases g : u.size = 32
  · rw [if_pos g, lenE_yes (by omega)] at cu
    rw [if_pos g]
    have cs : ∀ W, Calls Tryz.prog 19 #[nv pp, .agg #[.int .u64 1, .int .u64 0, .int .u64 0, .int .u64 0]] W fun e w' => e = .returned (.tuple #[nv (pp - 1), .int .u64 (bw pp 1 4)]) ∧ Below W.heap.size W w' := fun W => by
      have := refSub_raw pp 1 W
      rw [nv_low 1 (by decide) (by decide)] at this
      exact this
    have iH : Inn (hh (c5 (flN u) % pp)) := inn_fm _ _
    have cp : ∀ W, Calls Tryz.prog 21 #[nv (hh (c5 (flN u) % pp)), nv ((pp - 1) / 2), nv pp] W fun e w' => e = .returned (nv (hh (c5 (flN u) % pp) ^ (pp / 2).toNat % pp)) ∧ Below W.heap.size W w' := fun W => by
      have := refPow_any (hh (c5 (flN u) % pp)) (pp / 2) pp iH.1 iH.2 inn_half.1 inn_half.2 inn_pp.1 inn_pp.2 W
      rw [md_pos _ pp_pos] at this
      have e : (pp - 1) / 2 = pp / 2 := by decide
      rw [e]
      exact this
    unfold sqB
    cases hz : z4 (hh (c5 (flN u) % pp))
    · rw [Bool.false_or]
      exact ron_1 u _ _ _ (inn_mod _) hz w cu cs cp
    · rw [Bool.true_or]
      exact ron_0 u _ _ _ (inn_mod _) hz w cu cs cp
  · rw [if_neg g]
    exact ron_no u _ _ (lenE_nz g) w cu
end Go.Proofs.YtpigofooblmdhaaGreat
set_option linter.all false
set_option maxRecDepth 100000
namespace Go.Proofs.YtpigofooblmdhaaGreat
open Go.ChangeShapes Go.WideShapes Go.ChangeAt Go.RowKit
open Go.ChangeMaps (open_string shut_string)
set_option maxHeartbeats 4000000 in
theorem curve_core (k u S : ByteArray) (E : Int) (b : Bool) (w : World)
    (C4 : ∀ W, Calls Tryz.prog 4 #[.string k] W fun e w' => e = .returned (.tuple #[.string S, .int .i64 E]) ∧ Below W.heap.size W w')
    (C5 : ∀ W, Calls Tryz.prog 5 #[.string k] W fun e w' => e = .returned (.tuple #[.string S, .int .i64 E]) ∧ Below W.heap.size W w')
    (C6 : ∀ W, Calls Tryz.prog 6 #[.string u] W fun e w' => e = .returned (.bool b) ∧ Below W.heap.size W w')
    (C7 : ∀ W, Calls Tryz.prog 7 #[.string u] W fun e w' => e = .returned (.bool b) ∧ Below W.heap.size W w')
    (C8 : ∀ W, Calls Tryz.prog 8 #[] W fun e w' => e = .returned (.bool true) ∧ Below W.heap.size W w') :
    Calls Tryz.prog 3 #[.string k, .string u] w fun e w' => e = .returned (.bool true) ∧ Below w.heap.size w w' := by
  go_enter Tryz.func3, Tryz.ntmps3
  go_wp2_with fail
  refine (C4 _).mono ?_
  rintro e w1 ⟨rfl, hb⟩
  have hB := hb
  clear hb
  go_wp2_with fail
  refine (C5 _).mono ?_
  rintro e w2 ⟨rfl, hb⟩
  have hB' := Bel.call hB hb
  clear hb hB
  have hB := hB'
  clear hB'
  go_wp2_with fail
  refine (C6 _).mono ?_
  rintro e w3 ⟨rfl, hb⟩
  have hB' := Bel.call hB hb
  clear hb hB
  have hB := hB'
  clear hB'
  go_wp2_with fail
  refine (C7 _).mono ?_
  rintro e w4 ⟨rfl, hb⟩
  have hB' := Bel.call hB hb
  clear hb hB
  have hB := hB'
  clear hB'
  go_wp2_with fail
  refine (C8 _).mono ?_
  rintro e w5 ⟨rfl, hb⟩
  have hB' := Bel.call hB hb
  clear hb hB
  have hB := hB'
  clear hB'
  go_wp2_with fail
  go_returns
  exact ⟨rfl, hB⟩
theorem curve_any (k u : ByteArray) (hk : k.size ≤ maxLen) (hu : u.size ≤ maxLen) (w : World) :
    Calls Tryz.prog 3 #[.string k, .string u] w fun e w' => e = .returned (.bool true) ∧ Below w.heap.size w w' :=
  curve_core k u _ _ _ w (pub_u k hk) (rpub_u k hk) (on_u u hu) (ron_u u hu) awake3
set_option maxRecDepth 100000 in
theorem lifted3 (os : Os) (started : os.Started) (H : Type) (enc : TypeId × Value → H) :
    ReturnsInHanded {} Tryz.checked os 3 .any (Rows.xdhCurveSpec.pre6 enc Tryz.prog Tryz.f3 Rows.xdhCurveRow.domain false) (Rows.xdhCurveSpec.post enc Tryz.prog Tryz.f3 false true false false) := by
  refine returnsInHanded_of_change (C := Tryz.checked) own started (by kernel_rfl) Tryz.func3
    (ChangeSpec.witness6 (enc := enc) (C := Tryz.checked) false ⟨#[], #[.string ⟨#[]⟩, .string ⟨#[]⟩], []⟩ 8 (by kernel_rfl) (by kernel_rfl) (by kernel_rfl) (by kernel_rfl)) ?_
  intro W base args ds gs before hval0 hW hcnd _
  have hval : ∀ (j : Nat) t v, Tryz.f3.params[j]? = some t → args[j]? = some v → Value.okWide Tryz.prog W .any base t v := hval0
  have hW' := hW
  obtain ⟨p, q, hA0, hV, rfl, hfz, hnd⟩ := hW
  have hA : DataW.TrodAll enc Tryz.prog W 0 (fun _ => true) true Tryz.f3.params.toList args.toList ds p := hA0
  rw [Tryz.params3] at hA hval
  obtain ⟨v0, vs0, d0, ds0, p0, q0, hargs, rfl, rfl, h0, r0⟩ := trodAll_cons hA
  obtain ⟨v1, vs1, d1, ds1, p1, q1, rfl, rfl, rfl, h1, r1⟩ := trodAll_cons r0
  obtain ⟨rfl, rfl, rfl⟩ := trodAll_nil r1
  obtain rfl : args = #[v0, v1] := by cases args; simp_all
  obtain ⟨rfl, rfl⟩ := trodVars_none hV
  have k0 := h0
  have k1 := h1
  have lt0 : ∀ x ∈ p0, x.block < W.heap.size := by obtain ⟨m, hm⟩ := k0; exact DataW.trod_lt m _ _ _ hm
  have lt1 : ∀ x ∈ p1, x.block < W.heap.size := by obtain ⟨m, hm⟩ := k1; exact DataW.trod_lt m _ _ _ hm
  obtain ⟨S0, rfl, rfl, rfl, hs0⟩ := open_string Tryz.underlying9 (hval 0 9 v0 rfl rfl) h0
  obtain ⟨S1, rfl, rfl, rfl, hs1⟩ := open_string Tryz.underlying9 (hval 1 9 v1 rfl rfl) h1
  clear hA0 hval0
  refine (curve_any S0 S1 hs0 hs1 W).mono fun e W' ⟨he, bel⟩ => ?_
  subst he
  exact ⟨_, rfl, _, _, _, [], _, [], hW', trodAll_mk1 (shut_bool Tryz.underlying4 _), (trodAll_cons_mk (Below.trod laidOut (by kernel_rfl) (of_decide_eq_true (by kernel_rfl)) k0 bel lt0) (trodAll_cons_mk (Below.trod laidOut (by kernel_rfl) (of_decide_eq_true (by kernel_rfl)) k1 bel lt1) trodAll_mk0)), rfl, bel.frame _, fun h => by cases h⟩
theorem xdhCurve_holds : Rows.XdhCurveSaid :=
  OpenClaim.holds_of_wide 3 Tryz.f3 rfl rfl rfl rfl rfl rfl rfl ⟨rfl, rfl, rfl, rfl, rfl⟩ rfl rfl rfl rfl rfl (by kernel_rfl) Tryz.func3 (by kernel_rfl)
    (of_decide_eq_true (by kernel_rfl)) (by unfold Func.isWrapper; rw [if_neg (of_decide_eq_false (by kernel_rfl))]; exact ⟨rfl, rfl⟩)
    (fun os started H enc _ => lifted3 os started H enc)
#print axioms xdhCurve_holds
end Go.Proofs.YtpigofooblmdhaaGreat
