package tests

import (
	"bytes"
	"fmt"
	"math"
	"slices"
	"testing"

	"loop.example/g00375/impl"
)

func whenState(fault bool) int64 {
	if fault {
		return impl.ErrState
	}
	return impl.OK
}

// sideFaultByHand and the like are what the program's answers are held against.
func sideFaultByHand(s impl.Side) int64 {
	keyed := 32
	if s.Psk == 0 {
		keyed = 0
	}
	return firstCode(whenRange(hasNoSecret(s.Secret) || s.Psk < 0 || s.Psk > 9), whenForm(len(s.Random) != 8 || len(s.Key) != keyed))
}

func endFaultByHand(e impl.End) int64 {
	code := firstCode(sideFaultByHand(e.Side), whenRange(e.Stage < 1 || e.Stage > 3 || e.Mode < 0 || e.Mode > 2), whenAbove(len(e.Msgs), 4))
	for _, m := range e.Msgs {
		code = firstCode(code, faultByHand(m))
	}
	long := 0
	if e.Stage == 3 {
		long = 32
	}
	wrong := slices.ContainsFunc(fourOf(e.Secrets), func(secret []byte) bool { return len(secret) != long })
	return firstCode(code, whenForm(len(e.Base) != 0 && len(e.Base) != 32 || wrong))
}

// reckoned is what one comes to by the other one's share, a key (or none), and
// both hellos.
type reckoned struct {
	base, server, client []byte
}

func reckonedByHand(t *testing.T, s impl.Side, share int64, mode int64, hellos []impl.Msg) reckoned {
	t.Helper()
	var key []byte
	if mode == 2 {
		key = s.Key
	}
	shared := powerByLibrary(share, s.Secret)
	handshake := handshakeByHand(t, earlyByHand(t, key), []byte{byte(shared / 256), byte(shared % 256)})
	digest := transcriptByHand(hellos).Bytes
	return reckoned{
		base:   masterByHand(t, handshake),
		server: trafficByHand(t, handshake, "s hs traffic", digest),
		client: trafficByHand(t, handshake, "c hs traffic", digest),
	}
}

func helloMsgByHand(kind int64, s impl.Side, psk int64) impl.Msg {
	return impl.Msg{Kind: kind, Body: bodyOf(s.Random, powerByLibrary(17, s.Secret), psk)}
}

func startedByHand(s impl.Side) impl.EndResult {
	code := sideFaultByHand(s)
	if code != impl.OK {
		return impl.EndResult{Code: code}
	}
	list := []impl.Msg{helloMsgByHand(1, s, s.Psk)}
	return impl.EndResult{End: impl.End{Side: s, Stage: 1, Msgs: list}, Send: list}
}

func hearClientByHand(t *testing.T, s impl.Side, m impl.Msg) impl.EndResult {
	t.Helper()
	read := readByHand(1, m)
	code := firstCode(sideFaultByHand(s), read.Code)
	if code != impl.OK {
		return impl.EndResult{Code: code}
	}
	mode, psk := int64(1), int64(0)
	if read.Hello.Psk != 0 && read.Hello.Psk == s.Psk {
		mode, psk = 2, s.Psk
	}
	hellos := []impl.Msg{m, helloMsgByHand(2, s, psk)}
	keys := reckonedByHand(t, s, read.Hello.Share, mode, hellos)
	finished := finishedByHand(t, keys.server, hellos).Msg
	send := []impl.Msg{hellos[1], finished}
	return impl.EndResult{End: impl.End{Side: s, Stage: 2, Mode: mode, Msgs: slices.Concat(hellos[:1], send), Base: keys.base}, Send: send}
}

// doneByHand is an end with all four messages.
func doneByHand(t *testing.T, s impl.Side, mode int64, four []impl.Msg, base []byte) impl.End {
	t.Helper()
	return impl.End{Side: s, Stage: 3, Mode: mode, Msgs: four, Base: base, Secrets: secretsByHand(t, base, transcriptByHand(four[:3]).Bytes)}
}

func hearServerByHand(t *testing.T, e impl.End, list []impl.Msg) impl.EndResult {
	t.Helper()
	code := firstCode(endFaultByHand(e), whenState(e.Stage != 1 || len(e.Msgs) != 1), whenForm(len(list) != 2))
	if code != impl.OK {
		return impl.EndResult{Code: code}
	}
	read := readByHand(2, list[0])
	psk := read.Hello.Psk
	code = firstCode(read.Code, whenState(psk != 0 && psk != e.Side.Psk))
	if code != impl.OK {
		return impl.EndResult{Code: code}
	}
	mode := int64(1)
	if psk != 0 {
		mode = 2
	}
	hellos := []impl.Msg{e.Msgs[0], list[0]}
	keys := reckonedByHand(t, e.Side, read.Hello.Share, mode, hellos)
	code = checkedByHand(t, keys.server, hellos, list[1])
	if code != impl.OK {
		return impl.EndResult{Code: code}
	}
	three := slices.Concat(hellos, list[1:])
	finished := finishedByHand(t, keys.client, three).Msg
	four := append(slices.Clone(three), finished)
	return impl.EndResult{End: doneByHand(t, e.Side, mode, four, keys.base), Send: []impl.Msg{finished}}
}

func hearFinishByHand(t *testing.T, e impl.End, m impl.Msg) impl.EndResult {
	t.Helper()
	code := firstCode(endFaultByHand(e), whenState(e.Stage != 2 || len(e.Msgs) != 3 || len(e.Base) == 0))
	if code != impl.OK {
		return impl.EndResult{Code: code}
	}
	read := readByHand(1, e.Msgs[0])
	if read.Code != impl.OK {
		return impl.EndResult{Code: read.Code}
	}
	keys := reckonedByHand(t, e.Side, read.Hello.Share, e.Mode, e.Msgs[:2])
	code = checkedByHand(t, keys.client, e.Msgs, m)
	if code != impl.OK {
		return impl.EndResult{Code: code}
	}
	// Its Base is the one that it has, not one that is reckoned anew.
	return impl.EndResult{End: doneByHand(t, e.Side, e.Mode, append(slices.Clone(e.Msgs), m), e.Base)}
}

// pairByHand knows no steps: both ends differ by their sides alone.
func pairByHand(t *testing.T, client impl.Side, server impl.Side) impl.PairResult {
	t.Helper()
	code := firstCode(sideFaultByHand(client), sideFaultByHand(server))
	alike := code == impl.OK && client.Psk != 0 && client.Psk == server.Psk
	if alike && !bytes.Equal(client.Key, server.Key) {
		code = impl.ErrSign
	}
	if code != impl.OK {
		return impl.PairResult{Code: code}
	}
	mode, psk := int64(1), int64(0)
	if alike {
		mode, psk = 2, client.Psk
	}
	list := []impl.Msg{helloMsgByHand(1, client, client.Psk), helloMsgByHand(2, server, psk)}
	keys := reckonedByHand(t, client, powerByLibrary(17, server.Secret), mode, list)
	list = append(list, finishedByHand(t, keys.server, list).Msg)
	list = append(list, finishedByHand(t, keys.client, list).Msg)
	return impl.PairResult{Client: doneByHand(t, client, mode, list, keys.base), Server: doneByHand(t, server, mode, list, keys.base)}
}

func alikeSides(a impl.Side, b impl.Side) bool {
	return a.Secret == b.Secret && bytes.Equal(a.Random, b.Random) && a.Psk == b.Psk && bytes.Equal(a.Key, b.Key)
}

// alikeBut tells whether two ends are the same, but for their sides.
func alikeBut(a impl.End, b impl.End) bool {
	return a.Stage == b.Stage && a.Mode == b.Mode && alikeMsgs(a.Msgs, b.Msgs) && bytes.Equal(a.Base, b.Base) &&
		slices.EqualFunc(fourOf(a.Secrets), fourOf(b.Secrets), bytes.Equal)
}

func alikeEnds(a impl.End, b impl.End) bool {
	return alikeSides(a.Side, b.Side) && alikeBut(a, b)
}

func sameEnd(t *testing.T, name string, got impl.EndResult, want impl.EndResult) {
	t.Helper()
	if got.Code != want.Code || !alikeEnds(got.End, want.End) || !alikeMsgs(got.Send, want.Send) {
		t.Errorf("%s: %+v, want %+v", name, got, want)
	}
}

// noEnd asks for a code, and for nothing beside it.
func noEnd(t *testing.T, name string, got impl.EndResult, code int64) {
	t.Helper()
	sameEnd(t, name, got, impl.EndResult{Code: code})
}

func samePair(t *testing.T, name string, got impl.PairResult, want impl.PairResult) {
	t.Helper()
	if got.Code != want.Code || !alikeEnds(got.Client, want.Client) || !alikeEnds(got.Server, want.Server) {
		t.Errorf("%s: %+v, want %+v", name, got, want)
	}
}

// clientPlain and serverPlain have no key.
func clientPlain() impl.Side {
	return impl.Side{Secret: 5, Random: make([]byte, 8)}
}

func serverPlain() impl.Side {
	return impl.Side{Secret: 9, Random: []byte{1, 2, 3, 4, 5, 6, 7, 8}}
}

func keyedBy(s impl.Side, psk int64, key []byte) impl.Side {
	s.Psk, s.Key = psk, key
	return s
}

// keyPair has two sides, and the Mode that they come to.
type keyPair struct {
	name           string
	client, server impl.Side
	mode           int64
}

// keyPairs are all that come to an end: only keys of one number that are not
// the same do not.
func keyPairs() []keyPair {
	a, b := clientPlain(), serverPlain()
	return []keyPair{
		{"no keys", a, b, 1},
		{"a key of the client's", keyedBy(a, 3, rising(32)), b, 1},
		{"a key of the server's", a, keyedBy(b, 3, rising(32)), 1},
		{"one key", keyedBy(a, 3, rising(32)), keyedBy(b, 3, rising(32)), 2},
		{"one key of zeros", keyedBy(a, 9, make([]byte, 32)), keyedBy(b, 9, make([]byte, 32)), 2},
		{"one key under two numbers", keyedBy(a, 1, rising(32)), keyedBy(b, 9, rising(32)), 1},
		{"two keys under two numbers", keyedBy(a, 3, someBytes(32)), keyedBy(b, 4, rising(32)), 1},
	}
}

// atStages has both ends ahead of what they hear, and behind it, with what is
// sent between them.
type atStages struct {
	started, met, done, over impl.EndResult
}

func stagesByHand(t *testing.T, client impl.Side, server impl.Side) atStages {
	t.Helper()
	started := startedByHand(client)
	met := hearClientByHand(t, server, started.Send[0])
	done := hearServerByHand(t, started.End, met.Send)
	over := hearFinishByHand(t, met.End, done.Send[0])
	if firstCode(started.Code, met.Code, done.Code, over.Code) != impl.OK {
		t.Fatal("both ends by hand do not come to an end")
	}
	return atStages{started, met, done, over}
}

func cloneSide(s impl.Side) impl.Side {
	return impl.Side{Secret: s.Secret, Random: bytes.Clone(s.Random), Psk: s.Psk, Key: bytes.Clone(s.Key)}
}

func cloneEnd(e impl.End) impl.End {
	return impl.End{Side: cloneSide(e.Side), Stage: e.Stage, Mode: e.Mode, Msgs: cloneMsgs(e.Msgs), Base: bytes.Clone(e.Base), Secrets: cloneSecrets(e.Secrets)}
}

func cloneEndResult(r impl.EndResult) impl.EndResult {
	return impl.EndResult{Code: r.Code, End: cloneEnd(r.End), Send: cloneMsgs(r.Send)}
}

func TestShakeConstants(t *testing.T) {
	if impl.StageHello != 1 || impl.StageFinish != 2 || impl.StageDone != 3 || impl.ModeFull != 1 || impl.ModePsk != 2 {
		t.Error(impl.StageHello, impl.StageFinish, impl.StageDone, impl.ModeFull, impl.ModePsk)
	}
}

func TestShakeKnown(t *testing.T) {
	full := bytes.Repeat([]byte{255}, 8)
	// Reckoned by Python's hashlib and hmac.
	rows := []struct {
		client, server impl.Side
		mode           int64
		bodies         [4]string
		base           string
		secrets        [4]string
	}{
		{clientPlain(), serverPlain(), 1,
			[4]string{
				"08000000000000000002ab8c0100", "08010203040506070802a6a00100",
				"1d14e5ea173450116453f51d921af420fdfedf20020186cc64b75a87147397c9", "2d4e27c99d7606b2d015cadae58a930c756861bef6da6e500f3d6c2682851545",
			}, "5fc4ae39f0c2d5ef1a6dcf9c7ce76a736cd925a42998fb3d7d288602339ac2aa",
			[4]string{
				"cb692ffaff4144a318d161d509530b0496c0fe93b98c36d7ee71c7e84ac7304b", "4db3d5b15b4530282b7febbc25eb6f90a77a747a75615adb08e267b267d6c85c",
				"a535f072b36852f939fd0a08e5dc21f9f36f53ad7ffa9095c2a82aa6523c071b", "9bf5831752c41ec8901ba7c2cead6f9b5baa4561150a7d55f77ffeb762e3d2fc",
			}},
		{keyedBy(clientPlain(), 2, make([]byte, 32)), keyedBy(serverPlain(), 2, make([]byte, 32)), 2,
			[4]string{
				"08000000000000000002ab8c0102", "08010203040506070802a6a00102",
				"7f36aaaeb3c545ed5348777ab9387f73e30ffb5f75293afaa3fc4619fb90409a", "cd34182af3efd0194d855732088bbcfd8bff2fef4df185ea4e9c08bdf901f0a8",
			}, "5fc4ae39f0c2d5ef1a6dcf9c7ce76a736cd925a42998fb3d7d288602339ac2aa",
			[4]string{
				"c2bfe2220107caea6a88692dbf7dfbccc95de00c4287f772a4964a1148af2a79", "79d00ab97d34f47a112e33eb6905bc321504421e8ae88e0bcbf6df0ef59952f1",
				"2ce1e47cfd3a38fbce241047bd9f4c6cb8586eecbcf7670e354cc72a7aad34e3", "0704495432f9777d7cc83169884facf6f4c7cfd183ce9fc7a0802a353de4b260",
			}},
		{impl.Side{Secret: 1, Random: full, Psk: 9, Key: rising(32)}, impl.Side{Secret: 65519, Random: rising(9)[1:], Psk: 9, Key: rising(32)}, 2,
			[4]string{
				"08ffffffffffffffff0200110109", "08010203040506070802a59c0109",
				"75c292e59055eafbfc79b5260101b5e09cfa381d28d5d21438ead32e2bdec26c", "cbdeff6a01acbedd21da14dd1262316a6a3c13b885d6b71603d967c73eaaae3a",
			}, "5bfe4eb0921a00d36373037c604fe0c505ebbd5a344da3b1ef1dbb1d154b6f59",
			[4]string{
				"cf467536b499f2be3cc097eaf053d32843b053cddda8ae151c290357f21ca169", "1a59038dd8d65a09a8724bb02a8d4649a456bdbeaf72605764ce4369d35bb903",
				"56bb421846c078c48574346f0cac7d6be337cf1849e95e883f49183a202bf64a", "5eaacabcd13b715de9f0665e18eec4cf75bba8e71fc02f576e3cb52b9dfa70d8",
			}},
		{impl.Side{Secret: 31337, Random: rising(9)[1:], Psk: 3, Key: rising(32)}, impl.Side{Secret: 2, Random: full, Psk: 4, Key: rising(32)}, 1,
			[4]string{
				"0801020304050607080280c10103", "08ffffffffffffffff0201210100",
				"8f46b263ff1cf544502c88bfaede87bb5c125662cab954105481e253443986f4", "38cac7cce730b6edf5fe1ecd8621211bf65ac6942d31aae888ab44148634820d",
			}, "25c18bd93951e241bb624aa1b575694bae02d333e04b2a3dc294ee48740a1cbe",
			[4]string{
				"3bc5e270863c489a03212dc916a87d736a5b1bb27dfaa5c96234ad7d645ec33a", "c3239cd832c9049687049dab41ec3c15527c35312b8be3e2e4c184c850a291ff",
				"0714a73fa87fad0221ea57790c9d700fbfe22cf8c57a473f5cc2a6902794e9ad", "c699cbd84deaf4efb20a0f4e33e4600709e10dada2c0816c23766ee92e6e99c5",
			}},
	}
	for _, r := range rows {
		var list []impl.Msg
		for i, kind := range []int64{1, 2, 20, 20} {
			list = append(list, impl.Msg{Kind: kind, Body: hexed(t, r.bodies[i])})
		}
		base := hexed(t, r.base)
		var four [4][]byte
		for i, text := range r.secrets {
			four[i] = hexed(t, text)
		}
		secrets := impl.Secrets{Client: four[0], Server: four[1], Exporter: four[2], Resume: four[3]}
		started := impl.EndResult{End: impl.End{Side: r.client, Stage: 1, Msgs: list[:1]}, Send: list[:1]}
		met := impl.EndResult{End: impl.End{Side: r.server, Stage: 2, Mode: r.mode, Msgs: list[:3], Base: base}, Send: list[1:3]}
		done := impl.EndResult{End: impl.End{Side: r.client, Stage: 3, Mode: r.mode, Msgs: list, Base: base, Secrets: secrets}, Send: list[3:]}
		over := impl.EndResult{End: impl.End{Side: r.server, Stage: 3, Mode: r.mode, Msgs: list, Base: base, Secrets: secrets}}
		sameEnd(t, "StartClient", impl.StartClient(r.client), started)
		sameEnd(t, "HearClient", impl.HearClient(r.server, list[0]), met)
		sameEnd(t, "HearServer", impl.HearServer(started.End, list[1:3]), done)
		sameEnd(t, "HearFinish", impl.HearFinish(met.End, list[3]), over)
		samePair(t, "PairOf", impl.PairOf(r.client, r.server), impl.PairResult{Client: done.End, Server: over.End})
	}
}

// keysOfSides have the edges, inside the bounds and outside them.
func keysOfSides() [][]byte {
	return append(lists(0, 1, 16, 31, 32, 33, 64, 256+32, 601), nil, make([]byte, 31), make([]byte, 32), make([]byte, 33))
}

func TestSideFault(t *testing.T) {
	for _, secret := range secretsAsked() {
		for _, psk := range psksOfHellos() {
			for _, random := range randomsOfHellos() {
				for _, key := range keysOfSides() {
					s := impl.Side{Secret: secret, Random: random, Psk: psk, Key: key}
					sameCode(t, "SideFault", impl.SideFault(s), sideFaultByHand(s))
				}
			}
		}
	}
}

func TestSideFaultAtEachEdge(t *testing.T) {
	for secret, code := range map[int64]int64{-1: impl.ErrRange, 0: impl.ErrRange, 1: 0, 2: 0, 65518: 0, 65519: 0, 65520: impl.ErrRange, 65521: impl.ErrRange, math.MinInt64: impl.ErrRange, math.MaxInt64: impl.ErrRange} {
		sameCode(t, "a secret at an edge", impl.SideFault(impl.Side{Secret: secret, Random: someBytes(8)}), code)
	}
	for psk, code := range map[int64]int64{-1: impl.ErrRange, 1: 0, 9: 0, 10: impl.ErrRange, math.MinInt64: impl.ErrRange, math.MaxInt64: impl.ErrRange} {
		sameCode(t, "a Psk at an edge", impl.SideFault(impl.Side{Secret: 1, Random: someBytes(8), Psk: psk, Key: someBytes(32)}), code)
	}
	for n := range 40 {
		sameCode(t, "a random of so many", impl.SideFault(impl.Side{Secret: 1, Random: someBytes(n)}), whenForm(n != 8))
		sameCode(t, "a key of so many without a Psk", impl.SideFault(impl.Side{Secret: 1, Random: someBytes(8), Key: someBytes(n)}), whenForm(n != 0))
		for psk := int64(1); psk <= 9; psk++ {
			sameCode(t, "a key of so many with a Psk", impl.SideFault(impl.Side{Secret: 1, Random: someBytes(8), Psk: psk, Key: someBytes(n)}), whenForm(n != 32))
		}
	}
	sameCode(t, "a side with nothing in it", impl.SideFault(impl.Side{}), impl.ErrRange)
}

// wrongSides have a name, and the code that is theirs; with several wrong at
// once the first one in the document's order.
func wrongSides(visit func(name string, s impl.Side, code int64)) {
	good := someBytes(8)
	for _, secret := range []int64{-1, 0, 65520, math.MinInt64, math.MaxInt64} {
		visit("a secret", impl.Side{Secret: secret, Random: good}, impl.ErrRange)
		visit("a secret and a Psk", impl.Side{Secret: secret, Random: good, Psk: 10, Key: someBytes(32)}, impl.ErrRange)
		visit("a secret and a random", impl.Side{Secret: secret, Random: someBytes(7)}, impl.ErrRange)
		visit("a secret and a key", impl.Side{Secret: secret, Random: good, Psk: 1}, impl.ErrRange)
		visit("all", impl.Side{Secret: secret, Random: nil, Psk: -1, Key: someBytes(33)}, impl.ErrRange)
	}
	for _, psk := range []int64{-1, 10, math.MinInt64, math.MaxInt64} {
		visit("a Psk", impl.Side{Secret: 1, Random: good, Psk: psk, Key: someBytes(32)}, impl.ErrRange)
		visit("a Psk, with no key", impl.Side{Secret: 1, Random: good, Psk: psk}, impl.ErrRange)
		visit("a Psk and a random", impl.Side{Secret: 1, Random: someBytes(9), Psk: psk, Key: someBytes(32)}, impl.ErrRange)
		visit("a Psk, a random and a key", impl.Side{Secret: 1, Psk: psk, Key: someBytes(31)}, impl.ErrRange)
	}
	for _, n := range []int{0, 7, 9, 600} {
		visit("a random", impl.Side{Secret: 1, Random: someBytes(n)}, impl.ErrForm)
		visit("a random and a key", impl.Side{Secret: 1, Random: someBytes(n), Psk: 1}, impl.ErrForm)
	}
	for _, n := range []int{0, 31, 33, 64} {
		visit("a key", impl.Side{Secret: 1, Random: good, Psk: 9, Key: someBytes(n)}, impl.ErrForm)
	}
	for _, n := range []int{1, 31, 32, 33} {
		visit("a key without a Psk", impl.Side{Secret: 1, Random: good, Key: someBytes(n)}, impl.ErrForm)
	}
}

func TestSideFaultsAreAskedFirst(t *testing.T) {
	good := stagesByHand(t, clientPlain(), serverPlain())
	wrongSides(func(name string, s impl.Side, code int64) {
		t.Helper()
		sameCode(t, name, impl.SideFault(s), code)
		noEnd(t, "StartClient: "+name, impl.StartClient(s), code)
		for _, m := range []impl.Msg{good.started.Send[0], {Kind: -1}, {Kind: 256, Body: someBytes(161)}, {Kind: 1, Body: someBytes(161)}, {Kind: 2}, {}} {
			noEnd(t, "HearClient: "+name, impl.HearClient(s, m), code)
		}
		for _, e := range []impl.End{good.started.End, good.met.End, good.done.End, {}, {Stage: 9, Mode: -1, Msgs: msgsOf(repeated(161, 5)...), Base: someBytes(3)}} {
			e.Side = s
			sameCode(t, "EndFault: "+name, impl.EndFault(e), code)
			noEnd(t, "HearServer: "+name, impl.HearServer(e, good.met.Send), code)
			noEnd(t, "HearServer of nothing: "+name, impl.HearServer(e, nil), code)
			noEnd(t, "HearFinish: "+name, impl.HearFinish(e, good.done.Send[0]), code)
			noEnd(t, "HearFinish of no message: "+name, impl.HearFinish(e, impl.Msg{Kind: -1}), code)
		}
		samePair(t, "PairOf, a client: "+name, impl.PairOf(s, serverPlain()), impl.PairResult{Code: code})
		samePair(t, "PairOf, a server: "+name, impl.PairOf(clientPlain(), s), impl.PairResult{Code: code})
		wrongSides(func(other string, o impl.Side, _ int64) {
			samePair(t, "PairOf, a client: "+name+", a server: "+other, impl.PairOf(s, o), impl.PairResult{Code: code})
		})
	})
}

// listsOfEnds are 0 to 5 messages, some with a fault at each place.
func listsOfEnds() [][]impl.Msg {
	all := [][]impl.Msg{nil, {}, {{}}, msgsOf(160, 160, 160, 160), msgsOf(160, 160, 160, 160, 160)}
	for count := range 6 {
		list := msgsOf(repeated(3, count)...)
		all = append(all, list)
		for at := range count {
			all = append(all, withKind(list, at, -1), withKind(list, at, 255), withKind(list, at, 256), withBody(list, at, 160), withBody(list, at, 161))
		}
	}
	return append(all, withKind(withBody(msgsOf(3, 3, 3), 0, 161), 1, -1), withBody(withKind(msgsOf(3, 3, 3), 1, -1), 2, 161), withBody(withKind(msgsOf(3, 3), 0, math.MinInt64), 0, 161))
}

func secretsOfEnds() []impl.Secrets {
	four := func(a, b, c, d int) impl.Secrets {
		return impl.Secrets{Client: someBytes(a), Server: someBytes(b), Exporter: someBytes(c), Resume: someBytes(d)}
	}
	all := []impl.Secrets{{}, four(0, 0, 0, 0), four(32, 32, 32, 32), four(31, 31, 31, 31), four(33, 33, 33, 33), four(64, 0, 32, 32)}
	for _, n := range []int{0, 1, 31, 33, 64} {
		all = append(all, four(n, 32, 32, 32), four(32, n, 32, 32), four(32, 32, n, 32), four(32, 32, 32, n))
	}
	for _, n := range []int{1, 31, 32, 33} {
		all = append(all, four(n, 0, 0, 0), four(0, n, 0, 0), four(0, 0, n, 0), four(0, 0, 0, n))
	}
	return all
}

func TestEndFault(t *testing.T) {
	bases := append(lists(0, 1, 31, 32, 33, 64, 256), nil, make([]byte, 32))
	msgs, fours := listsOfEnds(), secretsOfEnds()
	stages := []int64{math.MinInt64, -1, 0, 1, 2, 3, 4, 256 + 1, 1<<32 + 2, math.MaxInt64}
	modes := []int64{math.MinInt64, -1, 0, 1, 2, 3, 256, 1<<32 + 1, math.MaxInt64}
	for _, s := range []impl.Side{clientPlain(), keyedBy(serverPlain(), 9, rising(32)), {}, keyedBy(clientPlain(), 0, rising(32))} {
		for _, stage := range stages {
			for _, mode := range modes {
				for _, list := range msgs {
					for i, base := range bases {
						for j, secrets := range fours {
							// All of them where stages are near; elsewhere one of each is enough.
							if (stage < 1 || stage > 3 || mode < 0 || mode > 2) && i+j > 3 {
								continue
							}
							e := impl.End{Side: s, Stage: stage, Mode: mode, Msgs: list, Base: base, Secrets: secrets}
							if impl.EndFault(e) != endFaultByHand(e) {
								t.Errorf("EndFault of %+v: %d, want %d", e, impl.EndFault(e), endFaultByHand(e))
							}
						}
					}
				}
			}
		}
	}
}

func TestEndFaultAtEachEdge(t *testing.T) {
	pair := stagesByHand(t, keyedBy(clientPlain(), 3, rising(32)), keyedBy(serverPlain(), 3, rising(32)))
	ends := map[string]impl.End{"started": pair.started.End, "met": pair.met.End, "done": pair.done.End, "over": pair.over.End}
	for name, e := range ends {
		ask := func(what string, change func(x *impl.End), code int64) {
			t.Helper()
			other := cloneEnd(e)
			change(&other)
			sameCode(t, name+": "+what, impl.EndFault(other), code)
		}
		ask("as it is", func(x *impl.End) {}, impl.OK)
		for mode, code := range map[int64]int64{-1: impl.ErrRange, 0: 0, 1: 0, 2: 0, 3: impl.ErrRange, math.MinInt64: impl.ErrRange, math.MaxInt64: impl.ErrRange} {
			ask("a mode", func(x *impl.End) { x.Mode = mode }, code)
		}
		for _, stage := range []int64{math.MinInt64, -1, 0, 4, 5, math.MaxInt64} {
			ask("a stage", func(x *impl.End) { x.Stage = stage }, impl.ErrRange)
		}
		for count := range 7 {
			ask("so many messages", func(x *impl.End) { x.Msgs = msgsOf(repeated(160, count)...) }, whenAbove(count, 4))
		}
		for n := range 70 {
			ask("a Base of so many", func(x *impl.End) { x.Base = someBytes(n) }, whenForm(n != 0 && n != 32))
		}
		long := 0
		if e.Stage == 3 {
			long = 32
		}
		for n := range 70 {
			secret := someBytes(n)
			ask("Client", func(x *impl.End) { x.Secrets.Client = secret }, whenForm(n != long))
			ask("Server", func(x *impl.End) { x.Secrets.Server = secret }, whenForm(n != long))
			ask("Exporter", func(x *impl.End) { x.Secrets.Exporter = secret }, whenForm(n != long))
			ask("Resume", func(x *impl.End) { x.Secrets.Resume = secret }, whenForm(n != long))
		}
	}
	sameCode(t, "an end with nothing in it", impl.EndFault(impl.End{}), impl.ErrRange)
	sameCode(t, "a side alone", impl.EndFault(impl.End{Side: clientPlain()}), impl.ErrRange)
	sameCode(t, "a side and a stage", impl.EndFault(impl.End{Side: clientPlain(), Stage: 1}), impl.OK)
	sameCode(t, "a side that is done, without secrets", impl.EndFault(impl.End{Side: clientPlain(), Stage: 3}), impl.ErrForm)
}

// wrongEnds have a name and a code that comes behind that of their side.
func wrongEnds(visit func(name string, e impl.End, code int64)) {
	s := clientPlain()
	early := impl.Secrets{Client: someBytes(32)}
	for _, stage := range []int64{math.MinInt64, -1, 0, 4, math.MaxInt64} {
		visit("a stage", impl.End{Side: s, Stage: stage}, impl.ErrRange)
		visit("a stage and too many messages", impl.End{Side: s, Stage: stage, Msgs: msgsOf(1, 1, 1, 1, 1)}, impl.ErrRange)
		visit("a stage and a Base", impl.End{Side: s, Stage: stage, Base: someBytes(31)}, impl.ErrRange)
		visit("a stage and a body too long", impl.End{Side: s, Stage: stage, Msgs: msgsOf(161)}, impl.ErrRange)
		visit("a stage and secrets", impl.End{Side: s, Stage: stage, Secrets: early}, impl.ErrRange)
	}
	for _, mode := range []int64{math.MinInt64, -1, 3, math.MaxInt64} {
		visit("a mode", impl.End{Side: s, Stage: 1, Mode: mode}, impl.ErrRange)
		visit("a mode and all behind it", impl.End{Side: s, Stage: 2, Mode: mode, Msgs: withKind(msgsOf(repeated(161, 5)...), 0, 256), Base: someBytes(33), Secrets: early}, impl.ErrRange)
	}
	visit("too many messages", impl.End{Side: s, Stage: 1, Msgs: msgsOf(1, 1, 1, 1, 1)}, impl.ErrMany)
	visit("too many messages, one of no kind", impl.End{Side: s, Stage: 1, Msgs: withKind(msgsOf(1, 1, 1, 1, 1), 0, -1)}, impl.ErrMany)
	visit("too many messages and a Base", impl.End{Side: s, Stage: 1, Msgs: msgsOf(1, 1, 1, 1, 1), Base: someBytes(31)}, impl.ErrMany)
	for at := range 4 {
		list := msgsOf(1, 1, 1, 1)
		visit("a message of no kind", impl.End{Side: s, Stage: 1, Msgs: withKind(list, at, 256)}, impl.ErrRange)
		visit("a message of no kind, too long", impl.End{Side: s, Stage: 1, Msgs: withKind(withBody(list, at, 161), at, -1)}, impl.ErrRange)
		visit("a body too long", impl.End{Side: s, Stage: 1, Msgs: withBody(list, at, 161)}, impl.ErrMany)
		visit("a message of no kind and a Base", impl.End{Side: s, Stage: 1, Msgs: withKind(list, at, -1), Base: someBytes(31)}, impl.ErrRange)
		visit("a body too long and a Base", impl.End{Side: s, Stage: 2, Msgs: withBody(list, at, 161), Base: someBytes(31)}, impl.ErrMany)
		visit("a body too long and no secrets", impl.End{Side: s, Stage: 3, Msgs: withBody(list, at, 161)}, impl.ErrMany)
		if at > 0 {
			visit("a body too long ahead of no kind", impl.End{Side: s, Stage: 1, Msgs: withBody(withKind(list, at, -1), at-1, 161)}, impl.ErrMany)
			visit("no kind ahead of a body too long", impl.End{Side: s, Stage: 1, Msgs: withKind(withBody(list, at, 161), at-1, -1)}, impl.ErrRange)
		}
	}
	for _, n := range []int{1, 31, 33, 64} {
		visit("a Base", impl.End{Side: s, Stage: 1, Base: someBytes(n)}, impl.ErrForm)
		visit("a Base of an end with three messages", impl.End{Side: s, Stage: 2, Msgs: msgsOf(1, 1, 1), Base: someBytes(n)}, impl.ErrForm)
		visit("a Base and secrets", impl.End{Side: s, Stage: 3, Base: someBytes(n), Secrets: early}, impl.ErrForm)
	}
	visit("secrets too early", impl.End{Side: s, Stage: 1, Msgs: msgsOf(1), Secrets: early}, impl.ErrForm)
	visit("secrets too early, of the other stage", impl.End{Side: s, Stage: 2, Msgs: msgsOf(1, 1, 1), Base: someBytes(32), Secrets: early}, impl.ErrForm)
	visit("a secret alone", impl.End{Side: s, Stage: 3, Base: someBytes(32), Secrets: early}, impl.ErrForm)
}

func TestEndFaultsAreAskedAheadOfStages(t *testing.T) {
	good := stagesByHand(t, clientPlain(), serverPlain())
	wrongEnds(func(name string, e impl.End, code int64) {
		t.Helper()
		sameCode(t, name, endFaultByHand(e), code)
		sameCode(t, "EndFault: "+name, impl.EndFault(e), code)
		for _, list := range [][]impl.Msg{good.met.Send, nil, msgsOf(1), {{Kind: -1}, {Kind: 256}}} {
			noEnd(t, "HearServer: "+name, impl.HearServer(e, list), code)
		}
		for _, m := range []impl.Msg{good.done.Send[0], {Kind: -1}, {Kind: 20, Body: someBytes(161)}} {
			noEnd(t, "HearFinish: "+name, impl.HearFinish(e, m), code)
		}
	})
}

// goodSides have their secrets, randoms and keys at the edges.
func goodSides() []impl.Side {
	var all []impl.Side
	for i, secret := range goodSecrets() {
		random := goodRandoms()[i%len(goodRandoms())]
		key := goodKeys()[i%len(goodKeys())]
		all = append(all, impl.Side{Secret: secret, Random: random}, impl.Side{Secret: secret, Random: random, Psk: int64(1 + i%9), Key: key})
	}
	return all
}

func TestStartClient(t *testing.T) {
	for _, s := range goodSides() {
		got := impl.StartClient(s)
		sameEnd(t, "StartClient", got, startedByHand(s))
		sameCode(t, "EndFault of who starts", impl.EndFault(got.End), impl.OK)
		want := impl.PackHello(1, impl.Hello{Random: s.Random, Share: impl.ShareOf(s.Secret).Value, Psk: s.Psk})
		if len(got.Send) != 1 || !alikeMsgs(got.Send, []impl.Msg{want.Msg}) || got.End.Mode != 0 || len(got.End.Base) != 0 {
			t.Errorf("StartClient of %+v: %+v", s, got)
		}
	}
	for _, secret := range secretsAsked() {
		for _, psk := range psksOfHellos() {
			for _, n := range []int{0, 7, 8, 9} {
				for _, k := range []int{0, 31, 32, 33} {
					s := impl.Side{Secret: secret, Random: someBytes(n), Psk: psk, Key: someBytes(k)}
					sameEnd(t, "StartClient", impl.StartClient(s), startedByHand(s))
				}
			}
		}
	}
}

// msgsForServer are hellos and what is nearly one.
func msgsForServer() []impl.Msg {
	var all []impl.Msg
	for _, kind := range kindsOfHellos() {
		all = append(all, impl.Msg{Kind: kind}, impl.Msg{Kind: kind, Body: bodyOf(someBytes(8), 289, 3)}, impl.Msg{Kind: kind, Body: bodyOf(someBytes(8), 0, 3)}, impl.Msg{Kind: kind, Body: someBytes(160)}, impl.Msg{Kind: kind, Body: someBytes(161)})
	}
	for psk := range int64(12) {
		for _, share := range []int64{0, 1, 2, 65520, 65521} {
			all = append(all, impl.Msg{Kind: 1, Body: bodyOf(someBytes(8), share, psk)})
		}
	}
	return all
}

func TestHearClient(t *testing.T) {
	for _, s := range append(goodSides()[:16], keyedBy(serverPlain(), 3, rising(32)), impl.Side{}, impl.Side{Secret: 1, Random: someBytes(7)}) {
		for _, m := range msgsForServer() {
			got := impl.HearClient(s, m)
			sameEnd(t, "HearClient", got, hearClientByHand(t, s, m))
			if got.Code == impl.OK {
				sameCode(t, "EndFault of who hears a client", impl.EndFault(got.End), impl.OK)
			}
		}
	}
}

func TestHearClientOfEachPsk(t *testing.T) {
	for own := range int64(10) {
		s := serverPlain()
		if own != 0 {
			s = keyedBy(s, own, someBytes(32))
		}
		for psk := range int64(10) {
			m := impl.Msg{Kind: 1, Body: bodyOf(someBytes(8), 289, psk)}
			mode, told := int64(1), int64(0)
			if psk == own && psk != 0 {
				mode, told = 2, psk
			}
			got := impl.HearClient(s, m)
			sameEnd(t, "HearClient", got, hearClientByHand(t, s, m))
			if got.Code != impl.OK || got.End.Mode != mode || len(got.Send) != 2 || got.End.Stage != 2 {
				t.Fatalf("a Psk of %d for one who has %d: %+v", psk, own, got)
			}
			read := impl.UnpackHello(2, got.Send[0])
			sameHello(t, "the server's hello", read, impl.HelloResult{Hello: impl.Hello{Random: s.Random, Share: powerByLibrary(17, 9), Psk: told}})
			// The key tells the finished message where both have it, and there alone.
			other := s
			if own != 0 {
				other.Key = rising(32)
			}
			if alikeMsgs(got.Send, impl.HearClient(other, m).Send) != (own == 0 || mode == 1) {
				t.Errorf("a Psk of %d for one who has %d: another key", psk, own)
			}
		}
	}
}

func TestHearClientCodesInOrder(t *testing.T) {
	s := serverPlain()
	good := bodyOf(someBytes(8), 17, 1)
	long := slices.Concat(good, make([]byte, 147))
	for _, kind := range []int64{-1, 256, 257, 1 - 256, math.MinInt64, math.MaxInt64} {
		noEnd(t, "no kind", impl.HearClient(s, impl.Msg{Kind: kind, Body: good}), impl.ErrRange)
		noEnd(t, "no kind, too long", impl.HearClient(s, impl.Msg{Kind: kind, Body: long}), impl.ErrRange)
	}
	for _, kind := range []int64{0, 2, 3, 20, 255} {
		noEnd(t, "another kind", impl.HearClient(s, impl.Msg{Kind: kind, Body: good}), impl.ErrForm)
		noEnd(t, "another kind, too long", impl.HearClient(s, impl.Msg{Kind: kind, Body: long}), impl.ErrMany)
		noEnd(t, "another kind, and no hello", impl.HearClient(s, impl.Msg{Kind: kind}), impl.ErrForm)
	}
	noEnd(t, "too long", impl.HearClient(s, impl.Msg{Kind: 1, Body: long}), impl.ErrMany)
	noEnd(t, "as long as may be", impl.HearClient(s, impl.Msg{Kind: 1, Body: long[:160]}), impl.ErrText)
	noEnd(t, "no body", impl.HearClient(s, impl.Msg{Kind: 1}), impl.ErrText)
	noEnd(t, "a share that is none", impl.HearClient(s, impl.Msg{Kind: 1, Body: bodyOf(someBytes(8), 65521, 1)}), impl.ErrText)
	noEnd(t, "a Psk that is none", impl.HearClient(s, impl.Msg{Kind: 1, Body: bodyOf(someBytes(8), 1, 10)}), impl.ErrText)
}

func TestHearClientOfBodiesChanged(t *testing.T) {
	s := keyedBy(serverPlain(), 3, rising(32))
	body := bodyOf(someBytes(8), 289, 3)
	for at := range body {
		for b := range 256 {
			other := bytes.Clone(body)
			other[at] = byte(b)
			m := impl.Msg{Kind: 1, Body: other}
			sameEnd(t, "a byte changed", impl.HearClient(s, m), hearClientByHand(t, s, m))
		}
		noEnd(t, "cut", impl.HearClient(s, impl.Msg{Kind: 1, Body: body[:at]}), impl.ErrText)
		noEnd(t, "a byte fewer", impl.HearClient(s, impl.Msg{Kind: 1, Body: slices.Concat(body[:at], body[at+1:])}), impl.ErrText)
		noEnd(t, "a byte more", impl.HearClient(s, impl.Msg{Kind: 1, Body: slices.Concat(body[:at], []byte{0}, body[at:])}), impl.ErrText)
	}
	noEnd(t, "lengthened", impl.HearClient(s, impl.Msg{Kind: 1, Body: append(bytes.Clone(body), 0)}), impl.ErrText)
}

// nearEnds are ends that differ from e in one thing or two, some without a
// fault.
func nearEnds(e impl.End, visit func(name string, other impl.End)) {
	change := func(name string, put func(x *impl.End)) {
		other := cloneEnd(e)
		put(&other)
		visit(name, other)
	}
	change("as it is", func(x *impl.End) {})
	for stage := range int64(5) {
		change("another stage", func(x *impl.End) { x.Stage = stage })
		change("another stage, with secrets", func(x *impl.End) {
			x.Stage = stage
			x.Secrets = impl.Secrets{Client: someBytes(32), Server: someBytes(32), Exporter: someBytes(32), Resume: someBytes(32)}
		})
		change("another stage, without secrets", func(x *impl.End) { x.Stage, x.Secrets = stage, impl.Secrets{} })
	}
	for mode := int64(-1); mode < 4; mode++ {
		change("another mode", func(x *impl.End) { x.Mode = mode })
	}
	for count := range 6 {
		four := append(cloneMsgs(e.Msgs), twoHellos()...)
		four = append(four, twoHellos()...)
		change("so many messages", func(x *impl.End) { x.Msgs = append(four, four...)[:count] })
	}
	for at := range e.Msgs {
		change("a message of no kind", func(x *impl.End) { x.Msgs[at].Kind = 256 })
		change("a message of another kind", func(x *impl.End) { x.Msgs[at].Kind ^= 1 })
		change("a body too long", func(x *impl.End) { x.Msgs[at].Body = someBytes(161) })
		change("a body as long as may be", func(x *impl.End) { x.Msgs[at].Body = someBytes(160) })
		change("no body", func(x *impl.End) { x.Msgs[at].Body = nil })
		change("a byte changed", func(x *impl.End) { x.Msgs[at].Body[5] ^= 1 })
	}
	for _, n := range []int{0, 31, 32, 33} {
		change("another Base", func(x *impl.End) { x.Base = someBytes(n) })
	}
	for _, secret := range []int64{-1, 0, 1, 65519, 65520} {
		change("another secret", func(x *impl.End) { x.Side.Secret = secret })
	}
	for _, n := range []int{0, 7, 8, 9} {
		change("another random", func(x *impl.End) { x.Side.Random = someBytes(n) })
	}
	for psk := int64(-1); psk < 11; psk++ {
		change("another Psk", func(x *impl.End) { x.Side.Psk = psk })
		for _, n := range []int{0, 31, 32, 33} {
			change("another Psk and key", func(x *impl.End) { x.Side.Psk, x.Side.Key = psk, someBytes(n) })
		}
	}
}

// nearMsg are messages that differ from m in one thing.
func nearMsg(m impl.Msg, visit func(name string, other impl.Msg)) {
	visit("as it is", m)
	for _, kind := range []int64{-1, 0, 1, 2, 3, 19, 20, 21, 255, 256, 256 + 20, math.MinInt64, math.MaxInt64} {
		visit(fmt.Sprintf("of kind %d", kind), impl.Msg{Kind: kind, Body: m.Body})
	}
	for at := range m.Body {
		visit("cut", impl.Msg{Kind: m.Kind, Body: m.Body[:at]})
		for _, b := range []byte{1, 2, 128, 255} {
			other := bytes.Clone(m.Body)
			other[at] ^= b
			visit(fmt.Sprintf("changed at byte %d", at), impl.Msg{Kind: m.Kind, Body: other})
		}
	}
	visit("lengthened", impl.Msg{Kind: m.Kind, Body: append(bytes.Clone(m.Body), 0)})
	visit("lengthened at its beginning", impl.Msg{Kind: m.Kind, Body: slices.Concat([]byte{0}, m.Body)})
	visit("twice", impl.Msg{Kind: m.Kind, Body: slices.Concat(m.Body, m.Body)})
	visit("as long as may be", impl.Msg{Kind: m.Kind, Body: slices.Concat(m.Body, make([]byte, 160-len(m.Body)))})
	visit("too long", impl.Msg{Kind: m.Kind, Body: slices.Concat(m.Body, make([]byte, 161-len(m.Body)))})
	visit("empty", impl.Msg{Kind: m.Kind, Body: []byte{}})
}

func TestHearServer(t *testing.T) {
	for _, p := range keyPairs() {
		pair := stagesByHand(t, p.client, p.server)
		e, list := pair.started.End, pair.met.Send
		ask := func(name string, e impl.End, list []impl.Msg) {
			t.Helper()
			sameEnd(t, p.name+": "+name, impl.HearServer(e, list), hearServerByHand(t, e, list))
		}
		nearEnds(e, func(name string, other impl.End) {
			ask(name, other, list)
			ask(name+", of no messages", other, nil)
		})
		nearMsg(list[0], func(name string, m impl.Msg) { ask("a hello "+name, e, []impl.Msg{m, list[1]}) })
		nearMsg(list[1], func(name string, m impl.Msg) {
			ask("a finished message "+name, e, []impl.Msg{list[0], m})
			ask("both "+name, e, []impl.Msg{{Kind: 2, Body: m.Body}, m})
		})
		for name, other := range map[string][]impl.Msg{
			"nil": nil, "empty": {}, "one": list[:1], "the second alone": list[1:], "turned": {list[1], list[0]}, "one twice": {list[0], list[0]},
			"the second twice": {list[1], list[1]}, "three": append(slices.Clone(list), list[1]), "its own ahead": {e.Msgs[0], list[0]}, "all three": pair.met.End.Msgs,
			"all four": pair.done.End.Msgs, "three of nothing": {{}, {}, {}}, "two of nothing": {{}, {}}, "three wrong": {{Kind: -1}, {Kind: 256}, {Kind: -1}},
		} {
			ask("a list: "+name, e, other)
		}
	}
}

// serverSays is what a server would say that has any hello and the right
// secrets: made by hand, as the program makes none such.
func serverSays(t *testing.T, e impl.End, server impl.Side, psk int64, mode int64) []impl.Msg {
	t.Helper()
	said := helloMsgByHand(2, server, psk)
	hellos := []impl.Msg{e.Msgs[0], said}
	keys := reckonedByHand(t, e.Side, powerByLibrary(17, server.Secret), mode, hellos)
	return []impl.Msg{said, finishedByHand(t, keys.server, hellos).Msg}
}

func TestHearServerOfEachPsk(t *testing.T) {
	for own := range int64(10) {
		s := clientPlain()
		if own != 0 {
			s = keyedBy(s, own, someBytes(32))
		}
		e := startedByHand(s).End
		for psk := range int64(10) {
			for _, mode := range []int64{1, 2} {
				list := serverSays(t, e, serverPlain(), psk, mode)
				got := impl.HearServer(e, list)
				sameEnd(t, "HearServer", got, hearServerByHand(t, e, list))
				switch {
				case psk != 0 && psk != own:
					noEnd(t, "a key that the client has not", got, impl.ErrState)
				case psk == 0 && mode == 2 && own != 0:
					noEnd(t, "a key that is not told", got, impl.ErrSign)
				case psk != 0 && mode == 1:
					noEnd(t, "a key that is told, and not taken", got, impl.ErrSign)
				default:
					want := int64(1)
					if psk != 0 {
						want = 2
					}
					if got.Code != impl.OK || got.End.Mode != want {
						t.Errorf("a Psk of %d for one who has %d: %+v", psk, own, got)
					}
				}
			}
		}
	}
}

func TestHearServerAsksForNoMoreThanItSays(t *testing.T) {
	s := keyedBy(clientPlain(), 3, rising(32))
	for _, first := range []impl.Msg{{}, {Kind: 77, Body: someBytes(160)}, {Kind: 2, Body: bodyOf(someBytes(8), 1, 1)}, {Kind: 1, Body: bodyOf(someBytes(8), 12345, 9)}} {
		for _, psk := range []int64{0, 3} {
			for mode := range int64(3) {
				for _, base := range [][]byte{nil, {}, someBytes(32)} {
					// Its own message, and what it does not know yet, are not asked.
					e := impl.End{Side: s, Stage: 1, Mode: mode, Msgs: []impl.Msg{first}, Base: base}
					list := serverSays(t, e, serverPlain(), psk, 1+min(psk, 1))
					got := impl.HearServer(e, list)
					sameEnd(t, "HearServer", got, hearServerByHand(t, e, list))
					if got.Code != impl.OK || got.End.Mode != 1+min(psk, 1) || len(got.End.Base) != 32 || bytes.Equal(got.End.Base, base) {
						t.Errorf("HearServer of %+v: %+v", e, got)
					}
				}
			}
		}
	}
}

func TestHearServerCodesInOrder(t *testing.T) {
	pair := stagesByHand(t, keyedBy(clientPlain(), 3, rising(32)), serverPlain())
	e, list := pair.started.End, pair.met.Send
	refuse := func(name string, e impl.End, list []impl.Msg, code int64) {
		t.Helper()
		noEnd(t, name, impl.HearServer(e, list), code)
	}
	noHello, wrongMsg := impl.Msg{Kind: 2, Body: someBytes(13)}, impl.Msg{Kind: 256, Body: someBytes(161)}
	late := pair.met.End
	many, none := cloneEnd(e), cloneEnd(e)
	many.Msgs, none.Msgs = append(many.Msgs, many.Msgs...), nil
	for name, other := range map[string]impl.End{"a later stage": late, "done": pair.done.End, "the other one, done": pair.over.End, "two messages": many, "no message": none} {
		refuse(name, other, list, impl.ErrState)
		refuse(name+", and no messages", other, nil, impl.ErrState)
		refuse(name+", and three", other, append(slices.Clone(list), list...)[:3], impl.ErrState)
		refuse(name+", and messages with a fault", other, []impl.Msg{wrongMsg, wrongMsg}, impl.ErrState)
	}
	for _, other := range [][]impl.Msg{nil, {}, list[:1], {wrongMsg}, {list[0], list[1], wrongMsg}, {wrongMsg, wrongMsg, wrongMsg}, msgsOf(repeated(161, 13)...)} {
		refuse("not two messages", e, other, impl.ErrForm)
	}
	forged := helloMsgByHand(2, serverPlain(), 4)
	for _, second := range []impl.Msg{list[1], wrongMsg, {Kind: 20, Body: someBytes(161)}, {Kind: 21}, {Kind: 20}} {
		refuse("a hello of no kind", e, []impl.Msg{{Kind: -1, Body: list[0].Body}, second}, impl.ErrRange)
		refuse("a hello of no kind, too long", e, []impl.Msg{wrongMsg, second}, impl.ErrRange)
		refuse("a hello too long", e, []impl.Msg{{Kind: 2, Body: someBytes(161)}, second}, impl.ErrMany)
		refuse("a hello of the client's kind", e, []impl.Msg{{Kind: 1, Body: list[0].Body}, second}, impl.ErrForm)
		refuse("no hello", e, []impl.Msg{noHello, second}, impl.ErrText)
		refuse("a key that it has not", e, []impl.Msg{forged, second}, impl.ErrState)
	}
	for _, kind := range []int64{-1, 256, math.MinInt64, math.MaxInt64} {
		refuse("a finished message of no kind", e, []impl.Msg{list[0], {Kind: kind, Body: list[1].Body}}, impl.ErrRange)
		refuse("a finished message of no kind, too long", e, []impl.Msg{list[0], {Kind: kind, Body: someBytes(161)}}, impl.ErrRange)
	}
	refuse("a finished message too long", e, []impl.Msg{list[0], {Kind: 20, Body: someBytes(161)}}, impl.ErrMany)
	refuse("a finished message too long, of another kind", e, []impl.Msg{list[0], {Kind: 2, Body: someBytes(161)}}, impl.ErrMany)
	refuse("a finished message of another kind", e, []impl.Msg{list[0], {Kind: 21, Body: list[1].Body}}, impl.ErrForm)
	refuse("a finished message that is not borne", e, []impl.Msg{list[0], {Kind: 20, Body: someBytes(32)}}, impl.ErrSign)
	refuse("a finished message of the client's", e, []impl.Msg{list[0], pair.done.Send[0]}, impl.ErrSign)
}

func TestHearFinish(t *testing.T) {
	for _, p := range keyPairs() {
		pair := stagesByHand(t, p.client, p.server)
		e, m := pair.met.End, pair.done.Send[0]
		ask := func(name string, e impl.End, m impl.Msg) {
			t.Helper()
			sameEnd(t, p.name+": "+name, impl.HearFinish(e, m), hearFinishByHand(t, e, m))
		}
		nearEnds(e, func(name string, other impl.End) {
			ask(name, other, m)
			ask(name+", of no message", other, impl.Msg{Kind: -1})
		})
		nearMsg(m, func(name string, other impl.Msg) { ask("a finished message "+name, e, other) })
		for _, other := range append(slices.Clone(e.Msgs), impl.Msg{}) {
			ask("what was said ahead", e, other)
		}
	}
}

// clientSays is the finished message that is right for an end, whatever it has
// heard, but for its first message, which has to be a hello.
func clientSays(t *testing.T, e impl.End) impl.Msg {
	t.Helper()
	keys := reckonedByHand(t, e.Side, readByHand(1, e.Msgs[0]).Hello.Share, e.Mode, e.Msgs[:2])
	return finishedByHand(t, keys.client, e.Msgs).Msg
}

func TestHearFinishAsksForNoMoreThanItSays(t *testing.T) {
	for _, s := range []impl.Side{serverPlain(), keyedBy(serverPlain(), 3, rising(32)), keyedBy(serverPlain(), 9, make([]byte, 32))} {
		for mode := range int64(3) {
			for _, base := range goodKeys() {
				for _, behind := range [][]impl.Msg{{{}, {}}, msgsOf(160, 160), twoHellos()} {
					// Its own messages, its Base and its Mode are as they are: the secrets
					// hang on that Base.
					e := impl.End{Side: s, Stage: 2, Mode: mode, Msgs: slices.Concat(twoHellos()[:1], behind), Base: base}
					m := clientSays(t, e)
					got := impl.HearFinish(e, m)
					sameEnd(t, "HearFinish", got, hearFinishByHand(t, e, m))
					if got.Code != impl.OK || got.End.Mode != mode || !bytes.Equal(got.End.Base, base) || len(got.Send) != 0 {
						t.Errorf("HearFinish of %+v: %+v", e, got)
					}
					sameSecrets(t, "its secrets", impl.SecretsOf(base, impl.TranscriptOf(e.Msgs).Bytes), impl.OK, got.End.Secrets)
					// A key is taken in ModePsk alone, and zeros are as none.
					other := e
					other.Mode = 2 - mode
					same := mode == 1 || len(s.Key) == 0 || s.Key[1] == 0
					if (impl.HearFinish(other, m).Code == impl.OK) != same {
						t.Errorf("HearFinish of mode %d, with a message for %d", other.Mode, mode)
					}
				}
			}
		}
	}
}

func TestHearFinishCodesInOrder(t *testing.T) {
	pair := stagesByHand(t, clientPlain(), serverPlain())
	e, m := pair.met.End, pair.done.Send[0]
	refuse := func(name string, e impl.End, m impl.Msg, code int64) {
		t.Helper()
		noEnd(t, name, impl.HearFinish(e, m), code)
	}
	wrongMsg := impl.Msg{Kind: 256, Body: someBytes(161)}
	change := func(put func(x *impl.End)) impl.End {
		other := cloneEnd(e)
		put(&other)
		return other
	}
	early := map[string]impl.End{
		"started": pair.started.End, "done": pair.over.End, "the other one, done": pair.done.End,
		"no Base": change(func(x *impl.End) { x.Base = nil }), "an empty Base": change(func(x *impl.End) { x.Base = []byte{} }),
		"two messages": change(func(x *impl.End) { x.Msgs = x.Msgs[:2] }), "no messages": change(func(x *impl.End) { x.Msgs = nil }),
		"four messages":                   change(func(x *impl.End) { x.Msgs = append(x.Msgs, m) }),
		"two messages, of which no hello": change(func(x *impl.End) { x.Msgs = msgsOf(1, 2) }),
		"no Base, and no hello":           change(func(x *impl.End) { x.Base, x.Msgs = nil, msgsOf(1, 2, 3) }),
	}
	for name, other := range early {
		for _, heard := range []impl.Msg{m, wrongMsg, {Kind: 1}, {}} {
			refuse(name, other, heard, impl.ErrState)
		}
	}
	for _, heard := range []impl.Msg{m, wrongMsg, {Kind: 20, Body: someBytes(161)}, {Kind: 1}, {Kind: 20}} {
		refuse("no hello", change(func(x *impl.End) { x.Msgs[0].Body = someBytes(13) }), heard, impl.ErrText)
		refuse("a hello without a share", change(func(x *impl.End) { x.Msgs[0].Body = bodyOf(someBytes(8), 0, 0) }), heard, impl.ErrText)
		refuse("a hello of the server's", change(func(x *impl.End) { x.Msgs[0] = x.Msgs[1] }), heard, impl.ErrForm)
		refuse("a hello of another kind, that is none", change(func(x *impl.End) { x.Msgs[0] = impl.Msg{} }), heard, impl.ErrForm)
	}
	for _, kind := range []int64{-1, 256, 256 + 20, math.MinInt64, math.MaxInt64} {
		refuse("a finished message of no kind", e, impl.Msg{Kind: kind, Body: m.Body}, impl.ErrRange)
		refuse("a finished message of no kind, too long", e, impl.Msg{Kind: kind, Body: someBytes(161)}, impl.ErrRange)
	}
	refuse("a finished message too long", e, impl.Msg{Kind: 20, Body: someBytes(161)}, impl.ErrMany)
	refuse("a finished message too long, of another kind", e, impl.Msg{Kind: 1, Body: someBytes(161)}, impl.ErrMany)
	for _, kind := range []int64{0, 1, 2, 19, 21, 255} {
		refuse("a finished message of another kind", e, impl.Msg{Kind: kind, Body: m.Body}, impl.ErrForm)
	}
	refuse("a finished message that is not borne", e, impl.Msg{Kind: 20, Body: someBytes(32)}, impl.ErrSign)
	refuse("its own finished message", e, e.Msgs[2], impl.ErrSign)
	refuse("no body", e, impl.Msg{Kind: 20}, impl.ErrSign)
}

func TestPairOf(t *testing.T) {
	for i, client := range goodSides() {
		for j, server := range goodSides() {
			if (i+j)%3 == 0 || i == j {
				samePair(t, "PairOf", impl.PairOf(client, server), pairByHand(t, client, server))
			}
		}
	}
	for _, secret := range secretsAsked() {
		for _, psk := range []int64{-1, 0, 1, 9, 10} {
			for _, n := range []int{0, 7, 8, 9} {
				for _, k := range []int{0, 31, 32, 33} {
					s := impl.Side{Secret: secret, Random: someBytes(n), Psk: psk, Key: someBytes(k)}
					o := keyedBy(serverPlain(), 1, someBytes(32))
					samePair(t, "PairOf, a client", impl.PairOf(s, o), pairByHand(t, s, o))
					samePair(t, "PairOf, a server", impl.PairOf(o, s), pairByHand(t, o, s))
				}
			}
		}
	}
}

func TestPairOfFaultsInOrder(t *testing.T) {
	form, far := impl.Side{Secret: 1, Random: someBytes(7)}, impl.Side{Secret: 0, Random: someBytes(8)}
	samePair(t, "form, then range", impl.PairOf(form, far), impl.PairResult{Code: impl.ErrForm})
	samePair(t, "range, then form", impl.PairOf(far, form), impl.PairResult{Code: impl.ErrRange})
	samePair(t, "nobody", impl.PairOf(impl.Side{}, impl.Side{}), impl.PairResult{Code: impl.ErrRange})
	// A fault of a side is asked ahead of keys that differ.
	a, b := keyedBy(clientPlain(), 3, rising(32)), keyedBy(serverPlain(), 3, make([]byte, 32))
	b.Random = nil
	samePair(t, "keys that differ, and a fault", impl.PairOf(a, b), impl.PairResult{Code: impl.ErrForm})
	samePair(t, "the other way round", impl.PairOf(b, a), impl.PairResult{Code: impl.ErrForm})
}

func TestP12KeysThatOneOrBothHave(t *testing.T) {
	for clients := range int64(10) {
		for servers := range int64(10) {
			for _, alike := range []bool{true, false} {
				a, b := clientPlain(), serverPlain()
				if clients != 0 {
					a = keyedBy(a, clients, rising(32))
				}
				if servers != 0 {
					b = keyedBy(b, servers, rising(32))
					if !alike {
						b.Key[31] ^= 1
					}
				}
				got := impl.PairOf(a, b)
				samePair(t, "PairOf", got, pairByHand(t, a, b))
				both := clients != 0 && clients == servers
				switch {
				case both && !alike:
					samePair(t, "one number, two keys", got, impl.PairResult{Code: impl.ErrSign})
				case both:
					if got.Code != impl.OK || got.Client.Mode != impl.ModePsk || got.Server.Mode != impl.ModePsk {
						t.Errorf("one key, of number %d: %+v", clients, got)
					}
				default:
					if got.Code != impl.OK || got.Client.Mode != impl.ModeFull || got.Server.Mode != impl.ModeFull {
						t.Errorf("keys of numbers %d and %d: %+v", clients, servers, got)
					}
				}
			}
		}
	}
}

func TestP12EachBitOfAKey(t *testing.T) {
	a := keyedBy(clientPlain(), 5, someBytes(32))
	want := impl.PairOf(a, keyedBy(serverPlain(), 5, someBytes(32)))
	sameCode(t, "one key", want.Code, impl.OK)
	for bit := range 256 {
		b := keyedBy(serverPlain(), 5, changed(someBytes(32), bit))
		samePair(t, "a key with one bit other", impl.PairOf(a, b), impl.PairResult{Code: impl.ErrSign})
		both := impl.PairOf(keyedBy(a, 5, changed(someBytes(32), bit)), b)
		if both.Code != impl.OK || bytes.Equal(both.Client.Base, want.Client.Base) || bytes.Equal(both.Client.Secrets.Exporter, want.Client.Secrets.Exporter) {
			t.Errorf("bit %d of a key that both have tells nothing: %+v", bit, both)
		}
		// Where the number is another one, the bytes tell nothing.
		b.Psk = 6
		sameCode(t, "two keys, two numbers", impl.PairOf(a, b).Code, impl.OK)
	}
}

// walk goes through all stages by the program itself, and holds what each end
// has against what both have so far.
func walk(t *testing.T, name string, client impl.Side, server impl.Side) (impl.End, impl.End) {
	t.Helper()
	started := impl.StartClient(client)
	if started.Code != impl.OK || len(started.Send) != 1 {
		t.Fatalf("%s: %+v", name, started)
	}
	met := impl.HearClient(server, started.Send[0])
	if met.Code != impl.OK || len(met.Send) != 2 {
		t.Fatalf("%s: %+v", name, met)
	}
	done := impl.HearServer(started.End, met.Send)
	if done.Code != impl.OK || len(done.Send) != 1 {
		t.Fatalf("%s: %+v", name, done)
	}
	over := impl.HearFinish(met.End, done.Send[0])
	if over.Code != impl.OK || len(over.Send) != 0 {
		t.Fatalf("%s: %+v", name, over)
	}
	for _, e := range []impl.End{started.End, met.End, done.End, over.End} {
		sameCode(t, name+": EndFault", impl.EndFault(e), impl.OK)
	}
	// Each one goes on once by what it hears; StageFinish is the server's alone.
	if started.End.Stage != 1 || met.End.Stage != 2 || done.End.Stage != 3 || over.End.Stage != 3 {
		t.Errorf("%s: stages %d %d %d %d", name, started.End.Stage, met.End.Stage, done.End.Stage, over.End.Stage)
	}
	if !alikeMsgs(started.End.Msgs, started.Send) || !alikeMsgs(met.End.Msgs, slices.Concat(started.End.Msgs, met.Send)) ||
		!alikeMsgs(done.End.Msgs, slices.Concat(met.End.Msgs, done.Send)) || !alikeMsgs(over.End.Msgs, done.End.Msgs) {
		t.Errorf("%s: both do not keep what was said", name)
	}
	if !alikeSides(started.End.Side, client) || !alikeSides(done.End.Side, client) || !alikeSides(met.End.Side, server) || !alikeSides(over.End.Side, server) {
		t.Errorf("%s: a side is another one", name)
	}
	if !bytes.Equal(met.End.Base, done.End.Base) || !bytes.Equal(over.End.Base, met.End.Base) || met.End.Mode != done.End.Mode || over.End.Mode != met.End.Mode {
		t.Errorf("%s: Bases or Modes are not the same", name)
	}
	return done.End, over.End
}

func TestP12BothComeToTheSame(t *testing.T) {
	check := func(name string, client impl.Side, server impl.Side) {
		t.Helper()
		a, b := walk(t, name, client, server)
		if !alikeBut(a, b) {
			t.Errorf("%s: %+v and %+v", name, a, b)
		}
		samePair(t, name, impl.PairOf(client, server), impl.PairResult{Client: a, Server: b})
		for i, secret := range fourOf(a.Secrets) {
			for j, other := range append(fourOf(b.Secrets), b.Base) {
				if len(secret) != 32 || bytes.Equal(secret, other) != (i == j) {
					t.Errorf("%s: secrets %d and %d", name, i, j)
				}
			}
		}
	}
	for _, p := range keyPairs() {
		if mode := impl.PairOf(p.client, p.server).Client.Mode; mode != p.mode {
			t.Errorf("%s: mode %d, want %d", p.name, mode, p.mode)
		}
		check(p.name, p.client, p.server)
		check(p.name+", the other way round", p.server, p.client)
		check(p.name+", one as both", p.client, p.client)
	}
	seed := uint32(3)
	next := func(n int) int {
		seed = seed*1664525 + 1013904223
		return int(seed>>8) % n
	}
	for i := range 200 {
		a := impl.Side{Secret: int64(1 + next(65519)), Random: someBytes(8 + i)[i:]}
		b := impl.Side{Secret: int64(1 + next(65519)), Random: someBytes(9 + i)[1+i:]}
		key := someBytes(32 + i)[i:]
		switch i % 4 {
		case 1:
			a, b = keyedBy(a, int64(1+i%9), key), keyedBy(b, int64(1+i%9), key)
		case 2:
			a = keyedBy(a, int64(1+i%9), key)
		case 3:
			b = keyedBy(b, int64(1+i%9), key)
		}
		check("some sides", a, b)
	}
}

func TestP12OtherSidesComeToOtherSecrets(t *testing.T) {
	seen := map[string]bool{}
	for _, secret := range []int64{1, 2, 5, 65518, 65519} {
		for _, random := range goodRandoms() {
			for psk := range int64(3) {
				a, b := impl.Side{Secret: secret, Random: random}, serverPlain()
				if psk != 0 {
					a, b = keyedBy(a, psk, rising(32)), keyedBy(b, psk, rising(32))
				}
				got := impl.PairOf(a, b)
				for _, secret := range append(fourOf(got.Client.Secrets), got.Client.Msgs[2].Body, got.Client.Msgs[3].Body) {
					if seen[string(secret)] {
						t.Errorf("a secret twice: %x", secret)
					}
					seen[string(secret)] = true
				}
			}
		}
	}
}

// goesOnFrom tells whether e goes on where from ends: the same side, all messages
// of from, and some behind them.
func goesOnFrom(from impl.End, e impl.End) bool {
	return alikeSides(from.Side, e.Side) && len(e.Msgs) > len(from.Msgs) && alikeMsgs(e.Msgs[:len(from.Msgs)], from.Msgs)
}

func TestP12EachHearsWhatIsMeantForItsStage(t *testing.T) {
	for _, p := range keyPairs() {
		// Both by the program, as only such ends are spoken of.
		started := impl.StartClient(p.client)
		met := impl.HearClient(p.server, started.Send[0])
		done := impl.HearServer(started.End, met.Send)
		over := impl.HearFinish(met.End, done.Send[0])
		ends := map[string]impl.End{"started": started.End, "met": met.End, "done": done.End, "over": over.End}
		four := over.End.Msgs
		if len(four) != 4 {
			t.Fatalf("%s: %+v", p.name, over)
		}
		for name, e := range ends {
			for i, m := range four {
				for j, other := range four {
					got := impl.HearServer(e, []impl.Msg{m, other})
					meant := name == "started" && i == 1 && j == 2
					switch {
					case meant:
						if got.Code != impl.OK || got.End.Stage != 3 || !goesOnFrom(e, got.End) {
							t.Errorf("%s: %s does not hear what is meant for it: %+v", p.name, name, got)
						}
					case name == "started":
						sameEnd(t, p.name+": not meant for it", got, hearServerByHand(t, e, []impl.Msg{m, other}))
						noEnd(t, p.name+": not meant for it", got, []int64{impl.ErrForm, firstCode(whenForm(j < 2), impl.ErrSign), impl.ErrForm, impl.ErrForm}[i])
					default:
						noEnd(t, p.name+": not its stage", got, impl.ErrState)
					}
				}
				got := impl.HearFinish(e, m)
				switch {
				case name == "met" && i == 3:
					if got.Code != impl.OK || got.End.Stage != 3 || !goesOnFrom(e, got.End) {
						t.Errorf("%s: %s does not hear what is meant for it: %+v", p.name, name, got)
					}
				case name == "met":
					noEnd(t, p.name+": not meant for it", got, []int64{impl.ErrForm, impl.ErrForm, impl.ErrSign}[i])
				default:
					noEnd(t, p.name+": not its stage", got, impl.ErrState)
				}
				// A server hears a client's hello, and that alone.
				if first := impl.HearClient(p.server, m); i == 0 {
					sameEnd(t, p.name+": a server hears", first, met)
				} else {
					noEnd(t, p.name+": not a hello of a client's", first, impl.ErrForm)
				}
			}
			for _, list := range [][]impl.Msg{nil, four[:1], four[1:2], four[1:4], four[:3], four} {
				noEnd(t, p.name+": not two", impl.HearServer(e, list), firstCode(whenState(name != "started"), impl.ErrForm))
			}
		}
	}
}

func TestP12WhatIsChangedIsNotHeard(t *testing.T) {
	for _, p := range keyPairs() {
		pair := stagesByHand(t, p.client, p.server)
		list, m := pair.met.Send, pair.done.Send[0]
		// A server's hello that was changed on its way may be one; then its finished
		// message is of other messages.
		for bit := range 8 * len(list[0].Body) {
			got := impl.HearServer(pair.started.End, []impl.Msg{{Kind: 2, Body: changed(list[0].Body, bit)}, list[1]})
			if got.Code != impl.ErrSign && got.Code != impl.ErrText && got.Code != impl.ErrState {
				t.Errorf("%s: bit %d of the server's hello: %+v", p.name, bit, got)
			}
			noEnd(t, p.name+": a bit of the server's hello", got, got.Code)
		}
		for bit := range 8 * 32 {
			noEnd(t, p.name+": a bit of the server's finished", impl.HearServer(pair.started.End, []impl.Msg{list[0], {Kind: 20, Body: changed(list[1].Body, bit)}}), impl.ErrSign)
			noEnd(t, p.name+": a bit of the client's finished", impl.HearFinish(pair.met.End, impl.Msg{Kind: 20, Body: changed(m.Body, bit)}), impl.ErrSign)
		}
		// What was changed in the client's hello is seen by who has sent it.
		sent := pair.started.Send[0]
		for bit := range 8 * len(sent.Body) {
			heard := impl.HearClient(p.server, impl.Msg{Kind: 1, Body: changed(sent.Body, bit)})
			if heard.Code != impl.OK {
				noEnd(t, p.name+": a bit of the client's hello", heard, impl.ErrText)
				continue
			}
			got := impl.HearServer(pair.started.End, heard.Send)
			noEnd(t, p.name+": a bit of the client's hello", got, firstCode(whenState(heard.End.Mode == 2 && p.client.Psk != p.server.Psk), impl.ErrSign))
		}
	}
}

func TestP12AnotherHandshakeIsNotHeard(t *testing.T) {
	for _, p := range keyPairs() {
		pair := stagesByHand(t, p.client, p.server)
		fresh := p.client
		fresh.Random = bytes.Repeat([]byte{77}, 8)
		other := stagesByHand(t, fresh, p.server)
		noEnd(t, p.name+": what was said to another", impl.HearServer(pair.started.End, other.met.Send), impl.ErrSign)
		noEnd(t, p.name+": another one's finished, behind the right hello", impl.HearServer(pair.started.End, []impl.Msg{pair.met.Send[0], other.met.Send[1]}), impl.ErrSign)
		noEnd(t, p.name+": another one's finished", impl.HearFinish(pair.met.End, other.done.Send[0]), impl.ErrSign)
		// Who has another secret, and tells the same hello, comes to other secrets.
		liar := p.server
		liar.Secret = 10
		said := impl.HearClient(liar, pair.started.Send[0])
		noEnd(t, p.name+": another secret", impl.HearServer(pair.started.End, []impl.Msg{pair.met.Send[0], said.Send[1]}), impl.ErrSign)
	}
}

// speak sends some records from one to the other, and holds what is heard
// against what was sent.
func speak(t *testing.T, from *end, to *end) {
	t.Helper()
	for i, plain := range [][]byte{nil, []byte("hello"), someBytes(200), {0, 0, 0}} {
		kind := int64(21 + i%3)
		to.hear(from.send(kind, plain, int64(i)), kind, plain)
	}
	from.update()
	to.update()
	to.hear(from.send(23, someBytes(9), 16), 23, someBytes(9))
	sameEnds(t, from, to)
}

func TestP12WhoIsDoneSendsAndHearsRecords(t *testing.T) {
	for _, p := range keyPairs() {
		a, b := walk(t, p.name, p.client, p.server)
		stream := func(secret []byte) *end { return &end{t, impl.Stream{Secret: secret}} }
		speak(t, stream(a.Secrets.Client), stream(b.Secrets.Client))
		speak(t, stream(b.Secrets.Server), stream(a.Secrets.Server))
		pair := impl.PairOf(p.client, p.server)
		speak(t, stream(pair.Client.Secrets.Client), stream(b.Secrets.Client))
		speak(t, stream(pair.Server.Secrets.Server), stream(a.Secrets.Server))
		// One way is not the other, and another handshake is not this one.
		record := stream(a.Secrets.Client).send(23, []byte("hello"), 0)
		refused(t, "the other way", impl.HearRecord(impl.Stream{Secret: b.Secrets.Server}, record), impl.ErrSign)
		fresh := p.client
		fresh.Random = bytes.Repeat([]byte{77}, 8)
		other := impl.PairOf(fresh, p.server)
		refused(t, "another handshake", impl.HearRecord(impl.Stream{Secret: other.Server.Secrets.Client}, record), impl.ErrSign)
	}
}

// roomySide and the like have room behind all their lists.
func roomySide(s impl.Side) impl.Side {
	return impl.Side{Secret: s.Secret, Random: roomyFor(s.Random), Psk: s.Psk, Key: roomyFor(s.Key)}
}

func staysSide(s impl.Side, was impl.Side) bool {
	return alikeSides(s, was) && stays(s.Random, was.Random) && stays(s.Key, was.Key)
}

func roomyEnd(e impl.End) impl.End {
	return impl.End{Side: roomySide(e.Side), Stage: e.Stage, Mode: e.Mode, Msgs: roomyMsgs(e.Msgs), Base: roomyFor(e.Base), Secrets: impl.Secrets{
		Client: roomyFor(e.Secrets.Client), Server: roomyFor(e.Secrets.Server), Exporter: roomyFor(e.Secrets.Exporter), Resume: roomyFor(e.Secrets.Resume),
	}}
}

func staysEnd(e impl.End, was impl.End) bool {
	for i, secret := range fourOf(e.Secrets) {
		if !stays(secret, fourOf(was.Secrets)[i]) {
			return false
		}
	}
	return alikeEnds(e, was) && staysSide(e.Side, was.Side) && staysMsgs(e.Msgs, was.Msgs) && stays(e.Base, was.Base)
}

func TestP1ShakeArgumentsStay(t *testing.T) {
	for _, p := range keyPairs() {
		pair := stagesByHand(t, p.client, p.server)
		ask := func(name string, wasEnd impl.End, wasList []impl.Msg) {
			t.Helper()
			e, list := roomyEnd(wasEnd), roomyMsgs(wasList)
			impl.SideFault(e.Side)
			impl.EndFault(e)
			impl.StartClient(e.Side)
			impl.HearServer(e, list)
			for _, m := range list {
				impl.HearClient(e.Side, m)
				impl.HearFinish(e, m)
			}
			other := roomySide(p.server)
			impl.PairOf(e.Side, other)
			impl.PairOf(other, e.Side)
			if !staysEnd(e, wasEnd) || !staysMsgs(list, wasList) || !staysSide(other, p.server) {
				t.Errorf("%s: %s: an argument is changed", p.name, name)
			}
		}
		lists := [][]impl.Msg{nil, pair.started.Send, pair.met.Send, pair.done.Send, pair.done.End.Msgs, {pair.met.Send[0], {Kind: 20, Body: someBytes(32)}}, {{Kind: -1}, {Kind: 1, Body: someBytes(161)}}}
		for _, list := range lists {
			ask("started", pair.started.End, list)
			ask("met", pair.met.End, list)
			ask("done", pair.done.End, list)
			ask("over", pair.over.End, list)
		}
		nearEnds(pair.started.End, func(name string, other impl.End) { ask(name, other, pair.met.Send) })
		nearEnds(pair.met.End, func(name string, other impl.End) { ask(name, other, pair.done.Send) })
	}
	wrongSides(func(name string, was impl.Side, _ int64) {
		s := roomySide(was)
		impl.SideFault(s)
		impl.StartClient(s)
		impl.HearClient(s, twoHellos()[0])
		impl.PairOf(s, s)
		if !staysSide(s, was) {
			t.Errorf("%s: a side is changed", name)
		}
	})
}

// bytesOfEnd are all lists of bytes in an end, bytesOfMsgs those in messages.
func bytesOfMsgs(list []impl.Msg) [][]byte {
	var all [][]byte
	for _, m := range list {
		all = append(all, m.Body)
	}
	return all
}

func bytesOfEnd(e impl.End) [][]byte {
	return slices.Concat([][]byte{e.Side.Random, e.Side.Key, e.Base}, fourOf(e.Secrets), bytesOfMsgs(e.Msgs))
}

// sharesNone spoils each list of bytes, to the end of its room, and sees that
// all others stay; then it is mended by spoiling it once more.
func sharesNone(t *testing.T, name string, all [][]byte) {
	t.Helper()
	was := cloneBlocks(all)
	for i := range all {
		spoil(all[i])
		for j := range all {
			if i != j && !bytes.Equal(all[j], was[j]) {
				t.Errorf("%s: lists %d and %d share memory", name, i, j)
			}
		}
		spoil(all[i])
	}
}

// spoilMsgs changes messages themselves, to the end of the list's room.
func spoilMsgs(list []impl.Msg) {
	list = list[:cap(list)]
	for i := range list {
		list[i] = impl.Msg{Kind: list[i].Kind + 1, Body: []byte("spoilt")}
	}
}

func spoilEnd(e impl.End) {
	for _, list := range bytesOfEnd(e) {
		spoil(list)
	}
	spoilMsgs(e.Msgs)
}

func TestP1ShakeAnswersAreNewMemory(t *testing.T) {
	for _, p := range keyPairs() {
		pair := stagesByHand(t, p.client, p.server)
		type asked struct {
			e    impl.End
			list []impl.Msg
		}
		asks := map[string]struct {
			from asked
			ask  func(a asked) impl.EndResult
		}{
			"StartClient": {asked{impl.End{Side: p.client}, nil}, func(a asked) impl.EndResult { return impl.StartClient(a.e.Side) }},
			"HearClient":  {asked{impl.End{Side: p.server}, pair.started.Send}, func(a asked) impl.EndResult { return impl.HearClient(a.e.Side, a.list[0]) }},
			"HearServer":  {asked{pair.started.End, pair.met.Send}, func(a asked) impl.EndResult { return impl.HearServer(a.e, a.list) }},
			"HearFinish":  {asked{pair.met.End, pair.done.Send}, func(a asked) impl.EndResult { return impl.HearFinish(a.e, a.list[0]) }},
		}
		for name, x := range asks {
			name = p.name + ": " + name
			own := func() asked { return asked{cloneEnd(x.from.e), cloneMsgs(x.from.list)} }
			a := own()
			first, second := x.ask(a), x.ask(a)
			want := cloneEndResult(first)
			sameCode(t, name, want.Code, impl.OK)
			sharesNone(t, name+": an answer", slices.Concat(bytesOfEnd(first.End), bytesOfMsgs(first.Send)))
			sharesNone(t, name+": an answer and its arguments", slices.Concat(bytesOfEnd(first.End), bytesOfMsgs(first.Send), bytesOfEnd(second.End), bytesOfMsgs(second.Send), bytesOfEnd(a.e), bytesOfMsgs(a.list)))
			spoilMsgs(first.Send)
			if !alikeMsgs(first.End.Msgs, want.End.Msgs) {
				t.Errorf("%s: what is sent and what is kept are one list", name)
			}
			spoilEnd(first.End)
			sameEnd(t, name+" told ahead", second, want)
			if !alikeEnds(a.e, x.from.e) || !alikeMsgs(a.list, x.from.list) {
				t.Errorf("%s shares memory with its arguments", name)
			}
			sameEnd(t, name+" told behind", x.ask(a), want)
			spoilEnd(a.e)
			for _, m := range a.list {
				spoil(m.Body)
			}
			spoilMsgs(a.list)
			sameEnd(t, name+" of what is changed behind it", second, want)
			sameEnd(t, name+" asked once more", x.ask(own()), want)
		}
	}
}

func TestP1PairsAreNewMemory(t *testing.T) {
	for _, p := range keyPairs() {
		client, server := cloneSide(p.client), cloneSide(p.server)
		want := pairByHand(t, p.client, p.server)
		first, second := impl.PairOf(client, server), impl.PairOf(client, server)
		samePair(t, p.name, first, want)
		sides := [][]byte{client.Random, client.Key, server.Random, server.Key}
		sharesNone(t, p.name, slices.Concat(bytesOfEnd(first.Client), bytesOfEnd(first.Server), bytesOfEnd(second.Client), bytesOfEnd(second.Server), sides))
		spoilMsgs(first.Client.Msgs)
		if !alikeMsgs(first.Server.Msgs, want.Server.Msgs) {
			t.Errorf("%s: both ends have one list", p.name)
		}
		spoilEnd(first.Client)
		spoilEnd(first.Server)
		samePair(t, p.name+": told ahead", second, want)
		samePair(t, p.name+": told behind", impl.PairOf(client, server), want)
		for _, list := range sides {
			spoil(list)
		}
		samePair(t, p.name+": of what is changed behind it", second, want)
	}
}

func TestP1ShakesOfOneMemory(t *testing.T) {
	// All arguments of one call may lie in one memory.
	whole := someBytes(40)
	a := impl.Side{Secret: 5, Random: whole[:8], Psk: 3, Key: whole[:32]}
	b := impl.Side{Secret: 9, Random: whole[4:12], Psk: 3, Key: whole[:32]}
	want := pairByHand(t, cloneSide(a), cloneSide(b))
	got := impl.PairOf(a, b)
	samePair(t, "PairOf of one memory", got, want)
	sharesNone(t, "PairOf of one memory", slices.Concat(bytesOfEnd(got.Client), bytesOfEnd(got.Server), [][]byte{whole}))
	sameList(t, "that memory", impl.BytesResult{Bytes: whole}, impl.OK, someBytes(40))
	// An end whose messages are one list with what it hears.
	four := cloneMsgs(want.Client.Msgs)
	client := impl.End{Side: a, Stage: 1, Msgs: four[:1]}
	server := impl.End{Side: b, Stage: 2, Mode: 2, Msgs: four[:3], Base: want.Server.Base}
	sameEnd(t, "HearServer of one list", impl.HearServer(client, four[1:3]), impl.EndResult{End: want.Client, Send: four[3:]})
	sameEnd(t, "HearFinish of one list", impl.HearFinish(server, four[3]), impl.EndResult{End: want.Server})
	if !alikeMsgs(four, want.Client.Msgs) {
		t.Error("that list is changed")
	}
	// An end that has secrets and a Base of one memory is told of faults alone.
	key := someBytes(32)
	done := impl.End{Side: a, Stage: 3, Base: key, Secrets: impl.Secrets{Client: key, Server: key, Exporter: key, Resume: key}}
	sameCode(t, "EndFault of one memory", impl.EndFault(done), impl.OK)
}

func TestP1ShakesHangOnArgumentsAlone(t *testing.T) {
	client, server := keyedBy(clientPlain(), 3, rising(32)), keyedBy(serverPlain(), 3, rising(32))
	pair := stagesByHand(t, client, server)
	ask := func() {
		t.Helper()
		sameCode(t, "SideFault", impl.SideFault(client), impl.OK)
		sameCode(t, "EndFault", impl.EndFault(pair.met.End), impl.OK)
		sameEnd(t, "StartClient", impl.StartClient(client), pair.started)
		sameEnd(t, "HearClient", impl.HearClient(server, pair.started.Send[0]), pair.met)
		sameEnd(t, "HearServer", impl.HearServer(pair.started.End, pair.met.Send), pair.done)
		sameEnd(t, "HearFinish", impl.HearFinish(pair.met.End, pair.done.Send[0]), pair.over)
		samePair(t, "PairOf", impl.PairOf(client, server), impl.PairResult{Client: pair.done.End, Server: pair.over.End})
		noEnd(t, "HearServer too late", impl.HearServer(pair.done.End, pair.met.Send), impl.ErrState)
		noEnd(t, "HearFinish of a hello", impl.HearFinish(pair.met.End, pair.started.Send[0]), impl.ErrForm)
	}
	ask()
	// What is refused in between leaves nothing behind, and neither does what is not.
	wrongSides(func(_ string, s impl.Side, _ int64) {
		impl.StartClient(s)
		impl.HearClient(s, pair.started.Send[0])
		impl.PairOf(s, server)
	})
	ask()
	for _, p := range keyPairs() {
		other := stagesByHand(t, p.client, p.server)
		nearEnds(other.started.End, func(_ string, e impl.End) { impl.HearServer(e, other.met.Send) })
		ask()
		nearEnds(other.met.End, func(_ string, e impl.End) { impl.HearFinish(e, other.done.Send[0]) })
		impl.PairOf(p.client, p.server)
		ask()
	}
}

func TestP1ShakesAtOnce(t *testing.T) {
	// What is asked at the same time is answered as if it were asked alone.
	type told struct {
		p    keyPair
		pair impl.PairResult
		late impl.EndResult
	}
	var all []keyPair
	for range 8 {
		all = append(all, keyPairs()...)
	}
	out := make(chan told, len(all))
	for _, p := range all {
		go func() {
			pair := impl.PairOf(p.client, p.server)
			out <- told{p, pair, impl.HearServer(pair.Client, nil)}
		}()
	}
	for range all {
		x := <-out
		samePair(t, x.p.name, x.pair, pairByHand(t, x.p.client, x.p.server))
		noEnd(t, x.p.name, x.late, impl.ErrState)
	}
}

func TestP1ShakesOfNothing(t *testing.T) {
	// Nothing, be it nil or empty, is one value.
	for _, none := range [][]byte{nil, {}} {
		a := impl.Side{Secret: 5, Random: make([]byte, 8), Key: none}
		sameCode(t, "SideFault without a key", impl.SideFault(a), impl.OK)
		sameCode(t, "SideFault without a random", impl.SideFault(impl.Side{Secret: 5, Random: none}), impl.ErrForm)
		sameCode(t, "SideFault with a Psk and without a key", impl.SideFault(keyedBy(a, 1, none)), impl.ErrForm)
		samePair(t, "PairOf without keys", impl.PairOf(a, serverPlain()), pairByHand(t, clientPlain(), serverPlain()))
		pair := stagesByHand(t, clientPlain(), serverPlain())
		empty := impl.Secrets{Client: none, Server: none, Exporter: none, Resume: none}
		started := impl.End{Side: a, Stage: 1, Msgs: pair.started.End.Msgs, Base: none, Secrets: empty}
		sameCode(t, "EndFault without a Base and secrets", impl.EndFault(started), impl.OK)
		sameEnd(t, "HearServer without a Base and secrets", impl.HearServer(started, pair.met.Send), pair.done)
		met := pair.met.End
		met.Secrets = empty
		sameEnd(t, "HearFinish without secrets", impl.HearFinish(met, pair.done.Send[0]), pair.over)
		met.Base = none
		noEnd(t, "HearFinish without a Base", impl.HearFinish(met, pair.done.Send[0]), impl.ErrState)
		noEnd(t, "HearClient of no body", impl.HearClient(serverPlain(), impl.Msg{Kind: 1, Body: none}), impl.ErrText)
		noEnd(t, "HearFinish of no body", impl.HearFinish(pair.met.End, impl.Msg{Kind: 20, Body: none}), impl.ErrSign)
	}
	for _, none := range [][]impl.Msg{nil, {}} {
		e := impl.End{Side: clientPlain(), Stage: 1, Msgs: none}
		sameCode(t, "EndFault without messages", impl.EndFault(e), impl.OK)
		noEnd(t, "HearServer without messages of its own", impl.HearServer(e, none), impl.ErrState)
		noEnd(t, "HearServer of no messages", impl.HearServer(startedByHand(clientPlain()).End, none), impl.ErrForm)
		noEnd(t, "HearFinish without messages", impl.HearFinish(e, impl.Msg{}), impl.ErrState)
	}
	noEnd(t, "HearServer of nothing at all", impl.HearServer(impl.End{}, nil), impl.ErrRange)
	noEnd(t, "HearFinish of nothing at all", impl.HearFinish(impl.End{}, impl.Msg{}), impl.ErrRange)
	noEnd(t, "HearClient of nothing at all", impl.HearClient(impl.Side{}, impl.Msg{}), impl.ErrRange)
	noEnd(t, "StartClient of nothing at all", impl.StartClient(impl.Side{}), impl.ErrRange)
}
