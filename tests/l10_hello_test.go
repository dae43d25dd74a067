package tests

import (
	"bytes"
	"crypto/sha256"
	"math"
	"slices"
	"testing"

	"loop.example/g00375/impl"
)

// helloFaultByHand and the like are what the program's answers are held
// against.
func helloFaultByHand(h impl.Hello) int64 {
	return firstCode(whenForm(len(h.Random) != 8), whenRange(hasNoElement(h.Share) || h.Psk < 0 || h.Psk > 9))
}

// bodyOf is asked of anything as well that is no hello, as long as it can be
// told in so many bytes.
func bodyOf(random []byte, share int64, psk int64) []byte {
	return blocksByHand([][]byte{random, {byte(share / 256), byte(share % 256)}, {byte(psk)}})
}

func hasNoHelloKind(kind int64) bool {
	return kind != 1 && kind != 2
}

// packedByHand is all that PackHello should answer.
func packedByHand(kind int64, h impl.Hello) impl.MsgResult {
	code := firstCode(whenRange(hasNoHelloKind(kind)), helloFaultByHand(h))
	if code != impl.OK {
		return impl.MsgResult{Code: code}
	}
	return impl.MsgResult{Msg: impl.Msg{Kind: kind, Body: bodyOf(h.Random, h.Share, h.Psk)}}
}

// readByHand is all that UnpackHello should answer. It knows no blocks: all
// bodies of hellos have the same lengths at the same places.
func readByHand(kind int64, m impl.Msg) impl.HelloResult {
	code := firstCode(whenRange(hasNoHelloKind(kind)), faultByHand(m), whenForm(m.Kind != kind), whenText(len(m.Body) != 14))
	if code != impl.OK {
		return impl.HelloResult{Code: code}
	}
	b := m.Body
	h := impl.Hello{Random: bytes.Clone(b[1:9]), Share: int64(b[10])*256 + int64(b[11]), Psk: int64(b[13])}
	if b[0] != 8 || b[9] != 2 || b[12] != 1 || helloFaultByHand(h) != impl.OK {
		return impl.HelloResult{Code: impl.ErrText}
	}
	return impl.HelloResult{Hello: h}
}

func transcriptByHand(list []impl.Msg) impl.BytesResult {
	code := codeOfMsgs(list)
	if code != impl.OK {
		return impl.BytesResult{Code: code}
	}
	digest := sha256.Sum256(msgsByHand(list))
	return impl.BytesResult{Bytes: digest[:]}
}

func finishedByHand(t *testing.T, secret []byte, list []impl.Msg) impl.MsgResult {
	t.Helper()
	code := firstCode(whenForm(len(secret) != 32), codeOfMsgs(list))
	if code != impl.OK {
		return impl.MsgResult{Code: code}
	}
	return impl.MsgResult{Msg: impl.Msg{Kind: 20, Body: finishByHand(t, secret, transcriptByHand(list).Bytes)}}
}

func checkedByHand(t *testing.T, secret []byte, list []impl.Msg, m impl.Msg) int64 {
	t.Helper()
	own := finishedByHand(t, secret, list)
	code := firstCode(own.Code, faultByHand(m), whenForm(m.Kind != 20))
	if code == impl.OK && !bytes.Equal(m.Body, own.Msg.Body) {
		return impl.ErrSign
	}
	return code
}

func alikeHellos(a impl.Hello, b impl.Hello) bool {
	return bytes.Equal(a.Random, b.Random) && a.Share == b.Share && a.Psk == b.Psk
}

func sameHello(t *testing.T, name string, got impl.HelloResult, want impl.HelloResult) {
	t.Helper()
	if got.Code != want.Code || !alikeHellos(got.Hello, want.Hello) {
		t.Errorf("%s: %+v, want %+v", name, got, want)
	}
}

func sameMsgResult(t *testing.T, name string, got impl.MsgResult, want impl.MsgResult) {
	t.Helper()
	if got.Code != want.Code || got.Msg.Kind != want.Msg.Kind || !bytes.Equal(got.Msg.Body, want.Msg.Body) {
		t.Errorf("%s: %+v, want %+v", name, got, want)
	}
}

func sameCode(t *testing.T, name string, got int64, want int64) {
	t.Helper()
	if got != want {
		t.Errorf("%s: code %d, want %d", name, got, want)
	}
}

// randomsOfHellos and the like have the edges, inside the bounds and outside
// them.
func randomsOfHellos() [][]byte {
	return append(lists(0, 1, 7, 8, 9, 16, 120, 121, 256+8, 601), nil, make([]byte, 7), make([]byte, 8), make([]byte, 9), bytes.Repeat([]byte{255}, 8))
}

func goodRandoms() [][]byte {
	return [][]byte{make([]byte, 8), someBytes(8), bytes.Repeat([]byte{255}, 8), {1, 2, 3, 4, 5, 6, 7, 8}, {8, 2, 1, 8, 2, 1, 8, 2}, {0, 0, 0, 0, 0, 0, 0, 1}}
}

// psksOfHellos has numbers that would be inside the bounds if their higher bits
// or their signs were dropped.
func psksOfHellos() []int64 {
	return []int64{-1, 0, 1, 5, 8, 9, 10, 11, 255, 256, 256 + 3, 1 << 16, 1 << 32, 1<<32 + 9, -9, -256, 3 - 256, 3 - 1<<32, 1 << 62, math.MinInt64, math.MinInt64 + 3, math.MaxInt64}
}

func kindsOfHellos() []int64 {
	return []int64{-1, 0, 1, 2, 3, 19, 20, 21, 22, 255, 256, 256 + 1, 256 + 2, 1 - 256, 2 - 256, 1<<32 + 1, 1<<32 + 2, 2 - 1<<32, -2, 1 << 62, math.MinInt64, math.MinInt64 + 1, math.MaxInt64}
}

// helloKnown is a hello of the client, helloOther one of the server.
func helloKnown() impl.Hello {
	return impl.Hello{Random: []byte{1, 2, 3, 4, 5, 6, 7, 8}, Share: 289, Psk: 3}
}

func helloOther() impl.Hello {
	return impl.Hello{Random: bytes.Repeat([]byte{255}, 8), Share: 65520, Psk: 0}
}

// twoHellos are the messages of both.
func twoHellos() []impl.Msg {
	return []impl.Msg{packedByHand(1, helloKnown()).Msg, packedByHand(2, helloOther()).Msg}
}

func eachGoodHello(visit func(h impl.Hello)) {
	for _, random := range goodRandoms() {
		for _, share := range goodElements() {
			for psk := range int64(10) {
				visit(impl.Hello{Random: random, Share: share, Psk: psk})
			}
		}
	}
}

func TestHelloConstants(t *testing.T) {
	if impl.KindClientHello != 1 || impl.KindServerHello != 2 || impl.KindFinished != 20 || impl.RandomBytes != 8 {
		t.Error(impl.KindClientHello, impl.KindServerHello, impl.KindFinished, impl.RandomBytes)
	}
}

func TestHellosKnown(t *testing.T) {
	rows := []struct {
		kind int64
		h    impl.Hello
		body string
	}{
		{1, helloKnown(), "080102030405060708" + "020121" + "0103"},
		{2, helloKnown(), "080102030405060708" + "020121" + "0103"},
		{2, helloOther(), "08ffffffffffffffff" + "02fff0" + "0100"},
		{1, impl.Hello{Random: make([]byte, 8), Share: 1, Psk: 9}, "080000000000000000" + "020001" + "0109"},
	}
	for _, r := range rows {
		m := impl.Msg{Kind: r.kind, Body: hexed(t, r.body)}
		sameCode(t, "HelloFault", impl.HelloFault(r.h), impl.OK)
		sameMsgResult(t, "PackHello", impl.PackHello(r.kind, r.h), impl.MsgResult{Msg: m})
		sameHello(t, "UnpackHello", impl.UnpackHello(r.kind, m), impl.HelloResult{Hello: r.h})
		sameHello(t, "UnpackHello of the other kind", impl.UnpackHello(3-r.kind, m), impl.HelloResult{Code: impl.ErrForm})
	}
}

func TestFinishedKnown(t *testing.T) {
	full := bytes.Repeat([]byte{255}, 32)
	// Reckoned by Python's hashlib and hmac.
	nothing := "e3b0c44298fc1c149afbf4c8996fb92427ae41e4649b934ca495991b7852b855"
	one := "121e4d831f724b63f1c12fc668090c8f315ce99b6e3a4d61f04c2d75ff5a32db"
	both := "154c597dc8a13afb0c4fe90a34ca93efcad30acbb0eb1dc30eaff8aad02b0242"
	rows := []struct {
		secret         []byte
		count          int
		digest, finish string
	}{
		{make([]byte, 32), 0, nothing, "14a565a637fea328d3ac95ec58b7c0d475efb3568fc75bcd44c8a486cfd3c90c"},
		{make([]byte, 32), 1, one, "9c82ab965c089b83bc63ee6033449a0b794993b7804768d163faa14b8a68ecd2"},
		{make([]byte, 32), 2, both, "94fa683f62b951e6734a3d7e1cd01d65891eaf13b1fc829cf0b7c287eae906e8"},
		{rising(32), 0, nothing, "709c7afcacb84069e1c7d3f1e83571fe3c2891f026360af8bad8ab16fb872314"},
		{rising(32), 1, one, "3fcfa4accdea4ef2265c38e2b4d2b3d4e37ca56d476adf9b31dae99eec5db3f3"},
		{rising(32), 2, both, "f4050efaa5ee5f0c1253f513fc84f2a8a7a428d02cfdc4ab0af99ca077b9ca92"},
		{full, 0, nothing, "3b189ee3d1b05ef065b6f0fe7f79b99b796767b62de334c4898218f54a649f40"},
		{full, 1, one, "66e5bfd44367db3e831c9222b6a23cde954e33dcfa082cc37329272f6dcb8a18"},
		{full, 2, both, "fbdec13d874327377ab166307acfcf2bd4000eae15e435d349241ce4decb6fab"},
	}
	for _, r := range rows {
		list := twoHellos()[:r.count]
		want := impl.Msg{Kind: 20, Body: hexed(t, r.finish)}
		sameList(t, "TranscriptOf", impl.TranscriptOf(list), impl.OK, hexed(t, r.digest))
		sameMsgResult(t, "FinishedMsg", impl.FinishedMsg(r.secret, list), impl.MsgResult{Msg: want})
		sameCode(t, "CheckFinished", impl.CheckFinished(r.secret, list, want), impl.OK)
	}
}

func TestHelloFaultAndPackHello(t *testing.T) {
	for _, random := range randomsOfHellos() {
		for _, share := range elementsAsked() {
			for _, psk := range psksOfHellos() {
				h := impl.Hello{Random: random, Share: share, Psk: psk}
				sameCode(t, "HelloFault", impl.HelloFault(h), helloFaultByHand(h))
				for _, kind := range kindsOfHellos() {
					sameMsgResult(t, "PackHello", impl.PackHello(kind, h), packedByHand(kind, h))
				}
			}
		}
	}
}

func TestHelloFaultAtEachEdge(t *testing.T) {
	good := helloKnown()
	for n := range 20 {
		h := impl.Hello{Random: someBytes(n), Share: good.Share, Psk: good.Psk}
		sameCode(t, "a random of another length", impl.HelloFault(h), whenForm(n != 8))
	}
	for share, code := range map[int64]int64{-1: impl.ErrRange, 0: impl.ErrRange, 1: 0, impl.Prime - 1: 0, impl.Prime: impl.ErrRange, impl.Prime + 1: impl.ErrRange, math.MinInt64: impl.ErrRange, math.MaxInt64: impl.ErrRange} {
		sameCode(t, "a share at an edge", impl.HelloFault(impl.Hello{Random: good.Random, Share: share}), code)
	}
	for psk, code := range map[int64]int64{-1: impl.ErrRange, 0: 0, 9: 0, 10: impl.ErrRange, math.MinInt64: impl.ErrRange, math.MaxInt64: impl.ErrRange} {
		sameCode(t, "a Psk at an edge", impl.HelloFault(impl.Hello{Random: good.Random, Share: 1, Psk: psk}), code)
	}
	sameCode(t, "a hello with nothing in it", impl.HelloFault(impl.Hello{}), impl.ErrForm)
}

func TestPackHelloCodesInOrder(t *testing.T) {
	refuse := func(name string, kind int64, h impl.Hello, code int64) {
		t.Helper()
		sameMsgResult(t, name, impl.PackHello(kind, h), impl.MsgResult{Code: code})
	}
	good := helloKnown()
	for _, kind := range []int64{0, 3, 20, 21, -1, math.MinInt64, math.MaxInt64} {
		refuse("a kind wrong", kind, good, impl.ErrRange)
		refuse("a kind and a random wrong", kind, impl.Hello{Random: someBytes(7), Share: 1}, impl.ErrRange)
		refuse("all wrong", kind, impl.Hello{Random: nil, Share: 0, Psk: 10}, impl.ErrRange)
	}
	for _, kind := range []int64{1, 2} {
		for _, random := range [][]byte{nil, {}, someBytes(7), someBytes(9)} {
			refuse("a random wrong", kind, impl.Hello{Random: random, Share: 1}, impl.ErrForm)
			refuse("a random and a share wrong", kind, impl.Hello{Random: random, Share: 0}, impl.ErrForm)
			refuse("a random and a Psk wrong", kind, impl.Hello{Random: random, Share: 1, Psk: 10}, impl.ErrForm)
			refuse("a random, a share and a Psk wrong", kind, impl.Hello{Random: random, Share: math.MinInt64, Psk: math.MaxInt64}, impl.ErrForm)
		}
		refuse("a share and a Psk wrong", kind, impl.Hello{Random: someBytes(8), Share: prime, Psk: -1}, impl.ErrRange)
	}
}

// readTwice asks for both kinds, and of the message as each of them.
func readTwice(t *testing.T, name string, body []byte) {
	t.Helper()
	for _, kind := range []int64{1, 2} {
		m := impl.Msg{Kind: kind, Body: body}
		sameHello(t, name, impl.UnpackHello(kind, m), readByHand(kind, m))
		sameHello(t, name+", asked for the other kind", impl.UnpackHello(3-kind, m), impl.HelloResult{Code: firstCode(whenAbove(len(body), 160), impl.ErrForm)})
	}
}

// isNoHello asks the same of a body that is known to be none.
func isNoHello(t *testing.T, name string, body []byte) {
	t.Helper()
	for _, kind := range []int64{1, 2} {
		sameHello(t, name, impl.UnpackHello(kind, impl.Msg{Kind: kind, Body: body}), impl.HelloResult{Code: impl.ErrText})
	}
}

func TestUnpackHello(t *testing.T) {
	bodies := append(bodiesOfMsg(), bodyOf(someBytes(8), 1, 0), bodyOf(someBytes(8), 0, 0), bodyOf(someBytes(7), 1, 0), bodyOf(someBytes(8), 65520, 9), bodyOf(someBytes(8), 65521, 9), bodyOf(someBytes(8), 17, 10))
	for _, kind := range kindsOfHellos() {
		for _, other := range kindsOfHellos() {
			for _, body := range bodies {
				m := impl.Msg{Kind: other, Body: body}
				sameHello(t, "UnpackHello", impl.UnpackHello(kind, m), readByHand(kind, m))
			}
		}
	}
}

func TestUnpackHelloOfOtherBlocks(t *testing.T) {
	random, share, psk := someBytes(8), []byte{1, 33}, []byte{3}
	rows := map[string][][]byte{
		"no blocks":               {},
		"one block":               {random},
		"a random and a share":    {random, share},
		"a random and a Psk":      {random, psk},
		"a share and a Psk":       {share, psk},
		"a block more":            {random, share, psk, {1}},
		"an empty block more":     {random, share, psk, {}},
		"an empty block ahead":    {{}, random, share, psk},
		"an empty block between":  {random, {}, share, psk},
		"five blocks":             {random, share, psk, {0}, {0}},
		"all twice":               {random, share, psk, random, share, psk},
		"a random of 7 bytes":     {random[:7], share, psk},
		"a random of 9 bytes":     {someBytes(9), share, psk},
		"a random of no bytes":    {{}, share, psk},
		"a random of 120 bytes":   {someBytes(120), share, psk},
		"a share of one byte":     {random, {33}, psk},
		"a share of three bytes":  {random, {0, 1, 33}, psk},
		"a share of no bytes":     {random, {}, psk},
		"a Psk of no bytes":       {random, share, {}},
		"a Psk of two bytes":      {random, share, {0, 3}},
		"a Psk of two, low first": {random, share, {3, 0}},
		"three empty blocks":      {{}, {}, {}},
		"a Psk ahead of a share":  {random, psk, share},
		"a share ahead of all":    {share, random, psk},
		"the other way round":     {psk, share, random},
		"a byte moved to share":   {random[:7], append(random[7:8:8], share...), psk},
		"a byte moved to Psk":     {random, share[:1], append(share[1:2:2], psk...)},
		"a byte moved to random":  {append(random[:8:8], share[0]), share[1:], psk},
		"all in one block":        {slices.Concat(random, share, psk)},
		"eight blocks":            {random, share, psk, {}, {}, {}, {}, {}},
		"a random as three":       {random, random, random},
	}
	for name, blocks := range rows {
		isNoHello(t, name, blocksByHand(blocks))
	}
	readTwice(t, "the blocks themselves", blocksByHand([][]byte{random, share, psk}))
	// All lengths of three blocks, near those of a hello.
	for a := range 18 {
		for b := range 6 {
			for c := range 5 {
				body := blocksByHand([][]byte{someBytes(a), bytes.Repeat([]byte{1}, b), bytes.Repeat([]byte{1}, c)})
				if a == 8 && b == 2 && c == 1 {
					readTwice(t, "blocks of their lengths", body)
				} else {
					isNoHello(t, "blocks of other lengths", body)
				}
			}
		}
	}
}

func TestUnpackHelloOfEachShareAndPsk(t *testing.T) {
	random := someBytes(8)
	for share := range int64(65536) {
		m := impl.Msg{Kind: 1 + share%2, Body: bodyOf(random, share, share%10)}
		want := impl.HelloResult{Hello: impl.Hello{Random: random, Share: share, Psk: share % 10}}
		if share == 0 || share >= 65521 {
			want = impl.HelloResult{Code: impl.ErrText}
		}
		sameHello(t, "each share", impl.UnpackHello(1+share%2, m), want)
	}
	for psk := range int64(256) {
		for _, share := range []int64{0, 1, 65520, 65521} {
			readTwice(t, "each Psk", bodyOf(random, share, psk))
		}
		if psk > 9 {
			isNoHello(t, "a Psk above 9", bodyOf(random, 289, psk))
		}
	}
}

func TestUnpackHelloChangedAtOneByte(t *testing.T) {
	for _, h := range []impl.Hello{helloKnown(), helloOther(), {Random: make([]byte, 8), Share: 1}} {
		body := bodyOf(h.Random, h.Share, h.Psk)
		for at := range body {
			for b := range 256 {
				other := bytes.Clone(body)
				other[at] = byte(b)
				readTwice(t, "a byte changed", other)
			}
		}
		for _, at := range []int{0, 9, 12} {
			for b := 1; b < 256; b++ {
				other := bytes.Clone(body)
				other[at] ^= byte(b)
				isNoHello(t, "a length changed", other)
			}
		}
	}
}

func TestUnpackHelloCutOrLengthened(t *testing.T) {
	for _, h := range []impl.Hello{helloKnown(), helloOther(), {Random: make([]byte, 8), Share: 1}} {
		body := bodyOf(h.Random, h.Share, h.Psk)
		for n := range body {
			isNoHello(t, "a body cut at its end", body[:n])
			if n > 0 {
				isNoHello(t, "a body cut at its beginning", body[n:])
			}
			isNoHello(t, "a body without one of its bytes", slices.Concat(body[:n], body[n+1:]))
		}
		for at := range len(body) + 1 {
			for b := range 256 {
				isNoHello(t, "a body with a byte more", slices.Concat(body[:at], []byte{byte(b)}, body[at:]))
			}
		}
		for n := 1; n <= 146; n++ {
			isNoHello(t, "a body with zeros behind it", slices.Concat(body, make([]byte, n)))
		}
		isNoHello(t, "a body twice", slices.Concat(body, body))
	}
}

func TestUnpackHelloCodesInOrder(t *testing.T) {
	refuse := func(name string, kind int64, m impl.Msg, code int64) {
		t.Helper()
		sameHello(t, name, impl.UnpackHello(kind, m), impl.HelloResult{Code: code})
	}
	good := bodyOf(someBytes(8), 17, 1)
	long := slices.Concat(good, make([]byte, 147))
	for _, kind := range []int64{0, 3, 20, 21, -1, 256, 257, 258, math.MinInt64, math.MaxInt64} {
		refuse("a kind that is none", kind, impl.Msg{Kind: 1, Body: good}, impl.ErrRange)
		refuse("a kind that is none, and the message has it", kind, impl.Msg{Kind: kind, Body: good}, impl.ErrRange)
		refuse("a kind that is none, and too long a body", kind, impl.Msg{Kind: 1, Body: long}, impl.ErrRange)
		refuse("a kind that is none, and no hello", kind, impl.Msg{Kind: 1}, impl.ErrRange)
	}
	for _, kind := range []int64{1, 2} {
		for _, other := range []int64{-1, 256, 256 + kind, kind - 256, 1<<32 + kind, math.MinInt64, math.MaxInt64} {
			refuse("a message of no kind", kind, impl.Msg{Kind: other, Body: good}, impl.ErrRange)
			refuse("a message of no kind, too long", kind, impl.Msg{Kind: other, Body: long}, impl.ErrRange)
			refuse("a message of no kind, and no hello", kind, impl.Msg{Kind: other}, impl.ErrRange)
		}
		for _, other := range []int64{0, 3 - kind, 3, 20, 21, 255} {
			refuse("a message of another kind", kind, impl.Msg{Kind: other, Body: good}, impl.ErrForm)
			refuse("a message of another kind, too long", kind, impl.Msg{Kind: other, Body: long}, impl.ErrMany)
			refuse("a message of another kind, and no hello", kind, impl.Msg{Kind: other, Body: good[1:]}, impl.ErrForm)
		}
		refuse("a body too long", kind, impl.Msg{Kind: kind, Body: long}, impl.ErrMany)
		refuse("a body as long as may be", kind, impl.Msg{Kind: kind, Body: long[:160]}, impl.ErrText)
		refuse("no body", kind, impl.Msg{Kind: kind}, impl.ErrText)
	}
}

// listsOfHellos are lists inside the bounds of PackMsgs and outside them, with
// faults of their own, and of hellos.
func listsOfHellos() [][]impl.Msg {
	all := [][]impl.Msg{
		nil, {}, twoHellos(), twoHellos()[:1], twoHellos()[1:], {{}}, {{Kind: 255}}, {{Kind: 256}}, {{Kind: -1}},
		{{Kind: 1}, {Kind: math.MinInt64}}, {{Kind: math.MaxInt64}, {Kind: 1, Body: someBytes(161)}}, {{Kind: 1, Body: someBytes(161)}, {Kind: math.MaxInt64}},
		withKind(msgsOf(repeated(3, 12)...), 11, 256), withBody(msgsOf(repeated(3, 12)...), 11, 161), withKind(msgsOf(repeated(3, 13)...), 0, -1),
		withKind(msgsOf(repeated(160, 12)...), 5, -1),
	}
	for _, lengths := range lengthsOfMsgs() {
		all = append(all, msgsOf(lengths...))
	}
	return all
}

func goodListsOfHellos() [][]impl.Msg {
	return slices.DeleteFunc(listsOfHellos(), func(list []impl.Msg) bool { return codeOfMsgs(list) != impl.OK })
}

func TestTranscriptOf(t *testing.T) {
	for _, list := range listsOfHellos() {
		want := transcriptByHand(list)
		sameList(t, "TranscriptOf", impl.TranscriptOf(list), want.Code, want.Bytes)
		packed := impl.PackMsgs(list)
		if packed.Code == impl.OK {
			sameList(t, "TranscriptOf, by the wire and the digest", impl.TranscriptOf(list), impl.OK, impl.DigestOf(packed.Bytes).Bytes)
		} else {
			sameList(t, "TranscriptOf, with the code of PackMsgs", impl.TranscriptOf(list), packed.Code, nil)
		}
	}
	for count := range 15 {
		list := msgsOf(repeated(9, count)...)
		want := transcriptByHand(list)
		sameCode(t, "a transcript of so many", want.Code, whenAbove(count, 12))
		sameList(t, "TranscriptOf so many", impl.TranscriptOf(list), want.Code, want.Bytes)
	}
	sameList(t, "600 bytes", impl.TranscriptOf(msgsOf(160, 160, 160, 104)), impl.OK, transcriptByHand(msgsOf(160, 160, 160, 104)).Bytes)
	sameList(t, "601 bytes", impl.TranscriptOf(msgsOf(160, 160, 160, 105)), impl.ErrMany, nil)
}

func secretsOfFinished() [][]byte {
	return append(lists(0, 1, 31, 32, 33, 64, 65), nil, make([]byte, 31), make([]byte, 32), make([]byte, 33), rising(32))
}

func TestFinishedMsg(t *testing.T) {
	for _, secret := range secretsOfFinished() {
		for _, list := range listsOfHellos() {
			got := impl.FinishedMsg(secret, list)
			sameMsgResult(t, "FinishedMsg", got, finishedByHand(t, secret, list))
			if got.Code == impl.OK {
				sameList(t, "FinishedMsg, by FinishOf", impl.FinishOf(secret, impl.TranscriptOf(list).Bytes), impl.OK, got.Msg.Body)
			}
		}
	}
}

// msgsAsFinished are messages that nobody made of what they are held against,
// with their bodies at the edges.
func msgsAsFinished() []impl.Msg {
	var all []impl.Msg
	for _, kind := range kindsOfHellos() {
		for _, body := range append(lists(0, 1, 31, 32, 33, 159, 160, 161, 601), nil, make([]byte, 32)) {
			all = append(all, impl.Msg{Kind: kind, Body: body})
		}
	}
	return all
}

func TestCheckFinished(t *testing.T) {
	for _, secret := range secretsOfFinished() {
		for _, list := range listsOfHellos() {
			code := firstCode(whenForm(len(secret) != 32), codeOfMsgs(list))
			for _, m := range msgsAsFinished() {
				want := firstCode(code, faultByHand(m), whenForm(m.Kind != 20), impl.ErrSign)
				sameCode(t, "CheckFinished of what nobody made", impl.CheckFinished(secret, list, m), want)
			}
			made := finishedByHand(t, secret, list)
			if code != impl.OK {
				// Nothing can be made of this: a message of another list, without a fault.
				made = finishedByHand(t, rising(32), nil)
			}
			sameCode(t, "CheckFinished of what was made", impl.CheckFinished(secret, list, made.Msg), code)
			for _, kind := range kindsOfHellos() {
				m := impl.Msg{Kind: kind, Body: made.Msg.Body}
				want := firstCode(code, whenRange(kind < 0 || kind > 255), whenForm(kind != 20))
				sameCode(t, "CheckFinished of another kind", impl.CheckFinished(secret, list, m), want)
			}
		}
	}
}

func TestFinishedCodesInOrder(t *testing.T) {
	refuse := func(name string, secret []byte, list []impl.Msg, m impl.Msg, code int64) {
		t.Helper()
		sameCode(t, name, impl.CheckFinished(secret, list, m), code)
	}
	made := finishedByHand(t, rising(32), twoHellos()).Msg
	many, wrong := msgsOf(repeated(0, 13)...), []impl.Msg{{Kind: 256}}
	long := impl.Msg{Kind: 20, Body: someBytes(161)}
	for _, secret := range [][]byte{nil, {}, rising(31), append(rising(32), 0)} {
		refuse("a secret wrong", secret, twoHellos(), made, impl.ErrForm)
		refuse("a secret and a list wrong", secret, many, made, impl.ErrForm)
		refuse("a secret and a message of the list wrong", secret, wrong, made, impl.ErrForm)
		refuse("all wrong", secret, wrong, impl.Msg{Kind: -1, Body: someBytes(161)}, impl.ErrForm)
		for _, list := range [][]impl.Msg{nil, twoHellos(), many, wrong} {
			sameMsgResult(t, "a secret wrong", impl.FinishedMsg(secret, list), impl.MsgResult{Code: impl.ErrForm})
		}
	}
	for _, m := range []impl.Msg{made, {Kind: -1}, long, {Kind: 1}, {Kind: 20}} {
		refuse("too many messages", rising(32), many, m, impl.ErrMany)
		refuse("a message of the list wrong", rising(32), wrong, m, impl.ErrRange)
		refuse("a body of the list too long", rising(32), []impl.Msg{{Kind: 1, Body: someBytes(161)}}, m, impl.ErrMany)
		refuse("a list too long", rising(32), msgsOf(repeated(160, 4)...), m, impl.ErrMany)
	}
	for _, kind := range []int64{-1, 256, 256 + 20, 20 - 256, math.MinInt64, math.MaxInt64} {
		refuse("no kind", rising(32), twoHellos(), impl.Msg{Kind: kind, Body: made.Body}, impl.ErrRange)
		refuse("no kind, too long", rising(32), twoHellos(), impl.Msg{Kind: kind, Body: long.Body}, impl.ErrRange)
	}
	refuse("too long", rising(32), twoHellos(), long, impl.ErrMany)
	refuse("too long, of another kind", rising(32), twoHellos(), impl.Msg{Kind: 21, Body: long.Body}, impl.ErrMany)
	for _, kind := range []int64{0, 1, 2, 19, 21, 255} {
		refuse("another kind", rising(32), twoHellos(), impl.Msg{Kind: kind, Body: made.Body}, impl.ErrForm)
		refuse("another kind, and not borne", rising(32), twoHellos(), impl.Msg{Kind: kind}, impl.ErrForm)
	}
	refuse("not borne", rising(32), twoHellos(), impl.Msg{Kind: 20}, impl.ErrSign)
	refuse("not borne, as long as may be", rising(32), twoHellos(), impl.Msg{Kind: 20, Body: someBytes(160)}, impl.ErrSign)
}

func TestP11HelloIsReadBack(t *testing.T) {
	check := func(kind int64, h impl.Hello) {
		t.Helper()
		sameCode(t, "HelloFault", impl.HelloFault(h), impl.OK)
		packed := impl.PackHello(kind, h)
		sameMsgResult(t, "PackHello", packed, packedByHand(kind, h))
		sameCode(t, "MsgFault of a hello", impl.MsgFault(packed.Msg), impl.OK)
		sameHello(t, "a hello read back", impl.UnpackHello(kind, packed.Msg), impl.HelloResult{Hello: h})
		sameHello(t, "a hello read as the other kind", impl.UnpackHello(3-kind, packed.Msg), impl.HelloResult{Code: impl.ErrForm})
	}
	eachGoodHello(func(h impl.Hello) {
		check(1, h)
		check(2, h)
	})
	for share := int64(1); share < 65521; share++ {
		check(1+share%2, impl.Hello{Random: someBytes(8), Share: share, Psk: share % 10})
	}
	for at := range 8 {
		for b := range 256 {
			random := someBytes(8)
			random[at] = byte(b)
			check(1+int64(b%2), impl.Hello{Random: random, Share: 17, Psk: int64(b % 10)})
		}
	}
}

func TestP11HelloIsReadBackThroughTheWire(t *testing.T) {
	data := impl.PackMsgs([]impl.Msg{impl.PackHello(1, helloKnown()).Msg, impl.PackHello(2, helloOther()).Msg})
	sameList(t, "both hellos", data, impl.OK, msgsByHand(twoHellos()))
	read := impl.UnpackMsgs(data.Bytes)
	if read.Code != impl.OK || len(read.Msgs) != 2 {
		t.Fatalf("%+v", read)
	}
	sameHello(t, "the first one", impl.UnpackHello(1, read.Msgs[0]), impl.HelloResult{Hello: helloKnown()})
	sameHello(t, "the second one", impl.UnpackHello(2, read.Msgs[1]), impl.HelloResult{Hello: helloOther()})
}

// nearlyHellos are bodies of hellos with some bytes changed, put in or taken
// out, so that some of them are read and some not.
func nearlyHellos(visit func(body []byte)) {
	seed := uint32(5)
	next := func(n int) int {
		seed = seed*1664525 + 1013904223
		return int(seed>>8) % n
	}
	for range 50000 {
		body := bodyOf(someBytes(8), int64(next(65536)), int64(next(12)))
		for range next(4) {
			body[next(len(body))] = byte(next(256))
		}
		if next(4) == 0 {
			at := next(len(body) + 1)
			body = slices.Concat(body[:at], []byte{byte(next(4))}, body[at:])
		}
		if next(4) == 0 {
			at := next(len(body))
			body = slices.Concat(body[:at], body[at+1:])
		}
		visit(body)
	}
}

func TestP11BodyThatIsReadIsThatHellos(t *testing.T) {
	read, refused := 0, 0
	nearlyHellos(func(body []byte) {
		for _, kind := range []int64{1, 2} {
			m := impl.Msg{Kind: kind, Body: body}
			got := impl.UnpackHello(kind, m)
			sameHello(t, "UnpackHello", got, readByHand(kind, m))
			if got.Code != impl.OK {
				refused++
				continue
			}
			read++
			sameCode(t, "HelloFault of what is read", impl.HelloFault(got.Hello), impl.OK)
			sameMsgResult(t, "what is read as a hello", impl.PackHello(kind, got.Hello), impl.MsgResult{Msg: m})
		}
	})
	if read < 1000 || refused < 1000 {
		t.Errorf("%d are read, %d refused: too few to tell", read, refused)
	}
}

func TestP11NoTwoHellosHaveOneMessage(t *testing.T) {
	type told struct {
		random     [8]byte
		share, psk int64
	}
	of := map[string]told{}
	eachGoodHello(func(h impl.Hello) {
		one := told{[8]byte(h.Random), h.Share, h.Psk}
		body := string(impl.PackHello(1, h).Msg.Body)
		other, ok := of[body]
		if ok && other != one {
			t.Errorf("%+v and %+v have one message", one, other)
		}
		of[body] = one
	})
}

func TestP11FinishedIsRightForWhatItWasMadeOf(t *testing.T) {
	for _, secret := range goodKeys() {
		for _, list := range goodListsOfHellos() {
			made := impl.FinishedMsg(secret, list)
			if made.Code != impl.OK || made.Msg.Kind != impl.KindFinished || len(made.Msg.Body) != 32 {
				t.Fatalf("FinishedMsg: %+v", made)
			}
			sameCode(t, "MsgFault of a finished message", impl.MsgFault(made.Msg), impl.OK)
			sameCode(t, "a finished message", impl.CheckFinished(secret, list, made.Msg), impl.OK)
			// Where what it was made of lies does not count.
			sameCode(t, "a finished message, of other memory", impl.CheckFinished(bytes.Clone(secret), cloneMsgs(list), impl.Msg{Kind: 20, Body: bytes.Clone(made.Msg.Body)}), impl.OK)
		}
	}
}

func TestP11FinishedIsWrongForAnotherSecret(t *testing.T) {
	for _, secret := range goodKeys() {
		for _, list := range [][]impl.Msg{nil, twoHellos(), msgsOf(repeated(46, 12)...)} {
			m := impl.FinishedMsg(secret, list).Msg
			for bit := range 256 {
				sameCode(t, "another secret", impl.CheckFinished(changed(secret, bit), list, m), impl.ErrSign)
			}
			for _, other := range goodKeys() {
				code := int64(impl.ErrSign)
				if bytes.Equal(secret, other) {
					code = impl.OK
				}
				sameCode(t, "one of the others", impl.CheckFinished(other, list, m), code)
			}
		}
	}
}

// otherLists tells lists that are nearly list, each with a name; none of them
// is the same.
func otherLists(list []impl.Msg, visit func(name string, other []impl.Msg)) {
	visit("a message more", append(cloneMsgs(list), impl.Msg{}))
	visit("a message ahead", append([]impl.Msg{{}}, cloneMsgs(list)...))
	for i, m := range list {
		visit("a message fewer", slices.Delete(cloneMsgs(list), i, i+1))
		visit("a message twice", slices.Insert(cloneMsgs(list), i, m))
		for bit := range 8 {
			visit("another kind", withKind(list, i, m.Kind^1<<bit))
		}
		for bit := range 8 * len(m.Body) {
			other := cloneMsgs(list)
			other[i].Body = changed(m.Body, bit)
			visit("a bit of a body", other)
		}
		if len(m.Body) > 0 {
			cut, moved := cloneMsgs(list), cloneMsgs(list)
			cut[i].Body = m.Body[:len(m.Body)-1]
			visit("a body cut", cut)
			if i+1 < len(list) {
				// The last byte of one stands first in the one behind it.
				moved[i].Body = m.Body[:len(m.Body)-1]
				moved[i+1].Body = slices.Concat(m.Body[len(m.Body)-1:], list[i+1].Body)
				visit("a byte moved", moved)
			}
		}
		lengthened := cloneMsgs(list)
		lengthened[i].Body = append(bytes.Clone(m.Body), 0)
		visit("a body lengthened", lengthened)
		if i > 0 && !alikeMsgs(list[i-1:i], list[i:i+1]) {
			turned := cloneMsgs(list)
			turned[i-1], turned[i] = turned[i], turned[i-1]
			visit("two messages in the other order", turned)
		}
	}
}

func TestP11FinishedIsWrongForOtherMessages(t *testing.T) {
	secret := rising(32)
	for _, list := range [][]impl.Msg{nil, {{}}, twoHellos(), twoHellos()[:1], msgsOf(0, 5, 0, 1), msgsOf(repeated(2, 11)...)} {
		m := impl.FinishedMsg(secret, list).Msg
		otherLists(list, func(name string, other []impl.Msg) {
			if codeOfMsgs(other) != impl.OK {
				t.Fatalf("%s: a list with a fault", name)
			}
			sameCode(t, name, impl.CheckFinished(secret, other, m), impl.ErrSign)
			if bytes.Equal(impl.TranscriptOf(list).Bytes, impl.TranscriptOf(other).Bytes) {
				t.Errorf("%s: the transcript is the same", name)
			}
		})
		sameCode(t, "the list itself", impl.CheckFinished(secret, list, m), impl.OK)
	}
	// Messages in a body are a body, not messages.
	one := []impl.Msg{{Kind: 1, Body: msgsByHand(twoHellos())}}
	sameCode(t, "messages in a body", impl.CheckFinished(secret, twoHellos(), impl.FinishedMsg(secret, one).Msg), impl.ErrSign)
}

func TestP11FinishedThatIsChanged(t *testing.T) {
	secret, list := someBytes(32), twoHellos()
	body := impl.FinishedMsg(secret, list).Msg.Body
	check := func(name string, other []byte) {
		t.Helper()
		sameCode(t, name, impl.CheckFinished(secret, list, impl.Msg{Kind: 20, Body: other}), impl.ErrSign)
	}
	for at := range body {
		for b := 1; b < 256; b++ {
			other := bytes.Clone(body)
			other[at] ^= byte(b)
			check("a byte changed", other)
		}
		check("cut at its end", body[:at])
		if at > 0 {
			check("cut at its beginning", body[at:])
		}
	}
	for b := range 256 {
		check("lengthened", append(bytes.Clone(body), byte(b)))
		check("lengthened at its beginning", append([]byte{byte(b)}, body...))
	}
	check("twice", slices.Concat(body, body))
	check("the digest itself", impl.TranscriptOf(list).Bytes)
	check("a mac of the digest, by the secret itself", macByLibrary(secret, impl.TranscriptOf(list).Bytes))
	check("nothing", nil)
	for kind := range int64(256) {
		code := whenForm(kind != 20)
		sameCode(t, "each kind", impl.CheckFinished(secret, list, impl.Msg{Kind: kind, Body: body}), code)
	}
	// A finished message is right where it was made, not behind itself.
	sameCode(t, "behind itself", impl.CheckFinished(secret, append(list, impl.Msg{Kind: 20, Body: body}), impl.Msg{Kind: 20, Body: body}), impl.ErrSign)
}

func TestP1HelloArgumentsStay(t *testing.T) {
	for _, wasRandom := range randomsOfHellos() {
		for _, kind := range []int64{0, 1, 2, 20} {
			random := roomyFor(wasRandom)
			for _, share := range []int64{0, 1, 65520, 65521} {
				h := impl.Hello{Random: random, Share: share, Psk: 3}
				impl.HelloFault(h)
				impl.PackHello(kind, h)
			}
			if !stays(random, wasRandom) {
				t.Errorf("a random of %d bytes is changed", len(wasRandom))
			}
		}
	}
	for _, was := range append(bodiesOfMsg(), bodyOf(someBytes(8), 289, 3), bodyOf(someBytes(8), 0, 3), bodyOf(someBytes(8), 289, 10), bodyOf(someBytes(7), 289, 3)) {
		for _, kind := range []int64{-1, 1, 2, 20} {
			body := roomyFor(was)
			impl.UnpackHello(1, impl.Msg{Kind: kind, Body: body})
			impl.UnpackHello(2, impl.Msg{Kind: kind, Body: body})
			impl.CheckFinished(make([]byte, 32), nil, impl.Msg{Kind: kind, Body: body})
			if !stays(body, was) {
				t.Errorf("a body of %d bytes is changed", len(was))
			}
		}
	}
	for _, wasList := range listsOfHellos() {
		for _, n := range []int{0, 31, 32, 33} {
			wasSecret := someBytes(n)
			wasBody := someBytes(32)
			if n == 32 && codeOfMsgs(wasList) == impl.OK {
				wasBody = finishedByHand(t, wasSecret, wasList).Msg.Body
			}
			secret, list, body := roomyFor(wasSecret), roomyMsgs(wasList), roomyFor(wasBody)
			impl.TranscriptOf(list)
			impl.FinishedMsg(secret, list)
			impl.CheckFinished(secret, list, impl.Msg{Kind: 20, Body: body})
			impl.CheckFinished(secret, list, impl.Msg{Kind: 20, Body: body[:31]})
			if !stays(secret, wasSecret) || !staysMsgs(list, wasList) || !stays(body, wasBody) {
				t.Errorf("a secret of %d bytes, a list of %d messages, or a body is changed", n, len(wasList))
			}
		}
	}
}

func cloneMsgResult(r impl.MsgResult) impl.MsgResult {
	r.Msg.Body = bytes.Clone(r.Msg.Body)
	return r
}

func TestP1HellosPackedAreNewMemory(t *testing.T) {
	for _, kind := range []int64{1, 2} {
		for _, random := range goodRandoms() {
			h := impl.Hello{Random: bytes.Clone(random), Share: 289, Psk: 9}
			want := packedByHand(kind, impl.Hello{Random: random, Share: 289, Psk: 9})
			first, second := impl.PackHello(kind, h), impl.PackHello(kind, h)
			spoil(first.Msg.Body)
			sameMsgResult(t, "PackHello told ahead", second, want)
			sameList(t, "its random", impl.BytesResult{Bytes: h.Random}, impl.OK, random)
			sameMsgResult(t, "PackHello told behind", impl.PackHello(kind, h), want)
			spoil(h.Random)
			sameMsgResult(t, "PackHello of what is changed behind it", second, want)
		}
	}
}

func TestP1HellosReadAreNewMemory(t *testing.T) {
	for _, kind := range []int64{1, 2} {
		for _, random := range goodRandoms() {
			was := bodyOf(random, 65520, 9)
			want := impl.HelloResult{Hello: impl.Hello{Random: random, Share: 65520, Psk: 9}}
			m := impl.Msg{Kind: kind, Body: roomyFor(was)}
			first, second := impl.UnpackHello(kind, m), impl.UnpackHello(kind, m)
			// To the end of its room, and behind it.
			spoil(first.Hello.Random)
			_ = append(first.Hello.Random, bytes.Repeat([]byte{0x5a}, 100)...)
			sameHello(t, "UnpackHello told ahead", second, want)
			if !stays(m.Body, was) {
				t.Error("a hello shares memory with its message")
			}
			sameHello(t, "UnpackHello told behind", impl.UnpackHello(kind, m), want)
			spoil(m.Body)
			sameHello(t, "UnpackHello of what is changed behind it", second, want)
		}
	}
}

func TestP1FinishedIsNewMemory(t *testing.T) {
	for _, wasList := range [][]impl.Msg{nil, twoHellos(), msgsOf(32), msgsOf(160, 0, 32)} {
		secret, list := rising(32), cloneMsgs(wasList)
		asks := map[string]func() impl.MsgResult{
			"FinishedMsg": func() impl.MsgResult { return impl.FinishedMsg(secret, list) },
			"TranscriptOf": func() impl.MsgResult {
				digest := impl.TranscriptOf(list)
				return impl.MsgResult{Code: digest.Code, Msg: impl.Msg{Body: digest.Bytes}}
			},
		}
		for name, ask := range asks {
			first, second := ask(), ask()
			want := cloneMsgResult(first)
			sameCode(t, name, want.Code, impl.OK)
			spoil(first.Msg.Body)
			_ = append(first.Msg.Body, bytes.Repeat([]byte{0x5a}, 100)...)
			sameMsgResult(t, name+" told ahead", second, want)
			sameMsgResult(t, name+" told behind", ask(), want)
			if !bytes.Equal(secret, rising(32)) || !alikeMsgs(list, wasList) {
				t.Errorf("%s shares memory with its arguments", name)
			}
			spoil(secret)
			for i := range list {
				spoil(list[i].Body)
			}
			sameMsgResult(t, name+" of what is changed behind it", second, want)
			secret, list = rising(32), cloneMsgs(wasList)
		}
	}
}

func TestP1HellosOfOneMemory(t *testing.T) {
	// All arguments of one call may lie in one memory.
	whole := someBytes(40)
	list := []impl.Msg{{Kind: 1, Body: whole}, {Kind: 2, Body: whole[4:20]}, {Kind: 1, Body: whole[:32]}}
	want := finishedByHand(t, someBytes(40)[:32], cloneMsgs(list))
	sameMsgResult(t, "FinishedMsg of one memory", impl.FinishedMsg(whole[:32], list), want)
	sameCode(t, "CheckFinished of one memory", impl.CheckFinished(whole[:32], list, want.Msg), impl.OK)
	sameCode(t, "the secret itself as a finished message", impl.CheckFinished(whole[:32], list, impl.Msg{Kind: 20, Body: whole[:32]}), impl.ErrSign)
	sameList(t, "that memory", impl.BytesResult{Bytes: whole}, impl.OK, someBytes(40))
	body := bodyOf(someBytes(8), 289, 3)
	h := impl.Hello{Random: body[1:9], Share: 289, Psk: 3}
	sameMsgResult(t, "PackHello of a part of a body", impl.PackHello(1, h), impl.MsgResult{Msg: impl.Msg{Kind: 1, Body: body}})
	sameList(t, "that body", impl.BytesResult{Bytes: body}, impl.OK, bodyOf(someBytes(8), 289, 3))
}

func TestP1HellosHangOnArgumentsAlone(t *testing.T) {
	secret, list := rising(32), twoHellos()
	finished := finishedByHand(t, secret, list)
	ask := func() {
		t.Helper()
		sameCode(t, "HelloFault", impl.HelloFault(helloKnown()), impl.OK)
		sameMsgResult(t, "PackHello", impl.PackHello(1, helloKnown()), impl.MsgResult{Msg: list[0]})
		sameHello(t, "UnpackHello", impl.UnpackHello(2, list[1]), impl.HelloResult{Hello: helloOther()})
		sameHello(t, "UnpackHello of another kind", impl.UnpackHello(1, list[1]), impl.HelloResult{Code: impl.ErrForm})
		sameList(t, "TranscriptOf", impl.TranscriptOf(list), impl.OK, transcriptByHand(list).Bytes)
		sameMsgResult(t, "FinishedMsg", impl.FinishedMsg(secret, list), finished)
		sameCode(t, "CheckFinished", impl.CheckFinished(secret, list, finished.Msg), impl.OK)
		sameCode(t, "CheckFinished of one message", impl.CheckFinished(secret, list[:1], finished.Msg), impl.ErrSign)
	}
	ask()
	for _, others := range listsOfHellos() {
		for _, other := range secretsOfFinished() {
			impl.TranscriptOf(others)
			impl.FinishedMsg(other, others)
			impl.CheckFinished(other, others, finished.Msg)
			impl.PackHello(2, impl.Hello{Random: other, Share: int64(len(others)), Psk: int64(len(other))})
			impl.UnpackHello(1, impl.Msg{Kind: 1, Body: other})
			impl.HelloFault(impl.Hello{Random: other})
		}
		ask()
	}
}

func TestP1HellosOfNothing(t *testing.T) {
	// Nothing, be it nil or empty, is one value.
	for _, none := range [][]byte{nil, {}} {
		h := impl.Hello{Random: none, Share: 1}
		sameCode(t, "HelloFault without a random", impl.HelloFault(h), impl.ErrForm)
		sameMsgResult(t, "PackHello without a random", impl.PackHello(1, h), impl.MsgResult{Code: impl.ErrForm})
		sameHello(t, "UnpackHello without a body", impl.UnpackHello(1, impl.Msg{Kind: 1, Body: none}), impl.HelloResult{Code: impl.ErrText})
		sameMsgResult(t, "FinishedMsg without a secret", impl.FinishedMsg(none, twoHellos()), impl.MsgResult{Code: impl.ErrForm})
		sameCode(t, "CheckFinished without a secret", impl.CheckFinished(none, nil, impl.Msg{Kind: 20, Body: none}), impl.ErrForm)
		sameCode(t, "CheckFinished without a body", impl.CheckFinished(rising(32), nil, impl.Msg{Kind: 20, Body: none}), impl.ErrSign)
		// A message with no body is the same message, however it is told.
		made := impl.FinishedMsg(rising(32), []impl.Msg{{Kind: 7, Body: none}})
		for _, other := range [][]byte{nil, {}} {
			sameCode(t, "CheckFinished of messages with no body", impl.CheckFinished(rising(32), []impl.Msg{{Kind: 7, Body: other}}, made.Msg), impl.OK)
		}
	}
	empty := sha256.Sum256(nil)
	for _, none := range [][]impl.Msg{nil, {}} {
		sameList(t, "TranscriptOf no messages", impl.TranscriptOf(none), impl.OK, empty[:])
		made := impl.FinishedMsg(rising(32), none)
		sameMsgResult(t, "FinishedMsg of no messages", made, finishedByHand(t, rising(32), nil))
		for _, other := range [][]impl.Msg{nil, {}} {
			sameCode(t, "CheckFinished of no messages", impl.CheckFinished(rising(32), other, made.Msg), impl.OK)
		}
		sameCode(t, "a message with nothing in it is one", impl.CheckFinished(rising(32), []impl.Msg{{}}, made.Msg), impl.ErrSign)
	}
}
