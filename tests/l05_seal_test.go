package tests

import (
	"bytes"
	"math"
	"slices"
	"testing"

	"loop.example/g00375/impl"
)

// tagByHand, sealByHand and finishByHand are what the program's answers are
// held against.
func tagByHand(key, nonce, extra, content []byte) []byte {
	data := slices.Concat(nonce, []byte{byte(len(extra))}, extra, content)
	return macByLibrary(key, data)[:16]
}

func sealByHand(key, nonce, extra, plain []byte) []byte {
	content := xorByHand(key, nonce, plain)
	return slices.Concat(content, tagByHand(key, nonce, extra, content))
}

func finishByHand(t *testing.T, key, digest []byte) []byte {
	t.Helper()
	return macByLibrary(expandByLibrary(t, key, labelByHand("finished", nil, 32), 32), digest)
}

func whenText(fault bool) int64 {
	if fault {
		return impl.ErrText
	}
	return impl.OK
}

// whenAsked is what all but FinishOf ask first.
func whenAsked(key, nonce, extra []byte) int64 {
	return firstCode(whenForm(len(key) != 32 || len(nonce) != 12), whenAbove(len(extra), 60))
}

// keysOfSeal and the like have the edges, inside the bounds and outside them.
func keysOfSeal() [][]byte {
	return append(lists(0, 1, 12, 31, 32, 33, 64, 65), nil, make([]byte, 32), bytes.Repeat([]byte{255}, 32))
}

func noncesOfSeal() [][]byte {
	return append(lists(0, 1, 11, 12, 13, 32), nil, make([]byte, 12), bytes.Repeat([]byte{255}, 12))
}

// extrasOfSeal has lengths whose one byte would be inside the bounds again.
func extrasOfSeal() [][]byte {
	return append(lists(0, 1, 5, 59, 60, 61, 62, 255, 256, 257, 316), nil, make([]byte, 1), make([]byte, 60), make([]byte, 61))
}

func plainsOfSeal() [][]byte {
	return append(lists(0, 1, 16, 63, 64, 65, 200, 201, 219, 220, 221, 222, 236, 237, 601), nil, make([]byte, 1), make([]byte, 220), make([]byte, 221))
}

// sealedOfNobody are bytes that nobody sealed.
func sealedOfNobody() [][]byte {
	return append(lists(0, 1, 14, 15, 16, 17, 18, 80, 219, 220, 221, 235, 236, 237, 238, 600, 601, 2000), nil, make([]byte, 15), make([]byte, 16), make([]byte, 236), make([]byte, 237))
}

func TestTagBytes(t *testing.T) {
	if impl.TagBytes != 16 {
		t.Error(impl.TagBytes)
	}
}

func TestSealKnown(t *testing.T) {
	full := func(n int) []byte { return bytes.Repeat([]byte{255}, n) }
	// Reckoned by OpenSSL's ChaCha20 and Python's hmac.
	rows := []struct {
		key, nonce, extra, plain []byte
		want                     string
	}{
		{make([]byte, 32), make([]byte, 12), nil, nil, "9a8d4d9a2d9d68f48ebe674e8ed30b28"},
		{make([]byte, 32), make([]byte, 12), []byte{1}, []byte("hello"), "f7628bd23a894dba61ac41e76d7503bf401896e537"},
		{rising(32), nonceKnown(), rising(60), nil, "646d5cc16141fc1564d2a94fca365e69"},
		{rising(32), nonceKnown(), []byte{23, 3, 3, 0, 36}, []byte("Who one is, told behind a handshake"),
			"479988c4be553c35397cf13fd74f1da0e7b391af5aae0c236502c2fbadb01f26b3e9012224fc5bf57529a075281d663514a261"},
		{full(32), full(12), full(60), full(220),
			"22d8bfc313e141bd692c82cec7785b295f8ddae08dbbc49a2deb545ef8a39534d8c0bdab2521070568ade0405d54eebcfecd35122cb5133d931f64722e053522" +
				"921fa005c4cc1d4bfe7673c8a164fed502ff85a80d681dcb64db2cec4469f41878cf87d636346a245a39e5afa33cb63b09977af03ee19d2533e7ccad992d5a21" +
				"7094d125fa524b6f5745f1f2bbd998389a0e437072189349878a4309637385b9c798c87f129c19615fe3a1e8e025f9c9e3290060a2954a81f12bfc3d4f814ad8" +
				"d009788b553270340b499c9b77e206bbb98842cef14c295bbf148816b578ea92887d769bbc415ab57ebcf27b"},
	}
	for _, r := range rows {
		want := hexed(t, r.want)
		end := len(r.plain)
		sameList(t, "SealBytes", impl.SealBytes(r.key, r.nonce, r.extra, r.plain), impl.OK, want)
		sameList(t, "OpenBytes", impl.OpenBytes(r.key, r.nonce, r.extra, want), impl.OK, r.plain)
		sameList(t, "TagOf", impl.TagOf(r.key, r.nonce, r.extra, want[:end]), impl.OK, want[end:])
	}
}

// eachAsked goes through all keys, nonces and extras.
func eachAsked(visit func(key, nonce, extra []byte)) {
	for _, key := range keysOfSeal() {
		for _, nonce := range noncesOfSeal() {
			for _, extra := range extrasOfSeal() {
				visit(key, nonce, extra)
			}
		}
	}
}

func TestSealBytesAndTagOf(t *testing.T) {
	eachAsked(func(key, nonce, extra []byte) {
		for _, plain := range plainsOfSeal() {
			code := firstCode(whenAsked(key, nonce, extra), whenAbove(len(plain), 220))
			var sealed, tag []byte
			if code == impl.OK {
				sealed, tag = sealByHand(key, nonce, extra, plain), tagByHand(key, nonce, extra, plain)
			}
			sameList(t, "SealBytes", impl.SealBytes(key, nonce, extra, plain), code, sealed)
			sameList(t, "TagOf", impl.TagOf(key, nonce, extra, plain), code, tag)
		}
	})
}

func TestOpenBytes(t *testing.T) {
	eachAsked(func(key, nonce, extra []byte) {
		for _, sealed := range sealedOfNobody() {
			code := firstCode(whenAsked(key, nonce, extra), whenText(len(sealed) < 16), whenAbove(len(sealed), 236), impl.ErrSign)
			sameList(t, "OpenBytes of what nobody sealed", impl.OpenBytes(key, nonce, extra, sealed), code, nil)
		}
		if whenAsked(key, nonce, extra) != impl.OK {
			return
		}
		for _, plain := range plainsOfSeal() {
			code := whenAbove(len(plain), 220)
			want := plain
			if code != impl.OK {
				want = nil
			}
			sameList(t, "OpenBytes", impl.OpenBytes(key, nonce, extra, sealByHand(key, nonce, extra, plain)), code, want)
		}
	})
}

func TestSealCodesInOrder(t *testing.T) {
	key, nonce, extra := someBytes(32), someBytes(12), someBytes(60)
	asks := map[string]func(key, nonce, extra, data []byte) impl.BytesResult{
		"SealBytes": impl.SealBytes, "TagOf": impl.TagOf, "OpenBytes": impl.OpenBytes,
	}
	for name, ask := range asks {
		for _, n := range []int{0, 15, 16, 237, 1000} {
			data := someBytes(n)
			sameList(t, name+": key wrong", ask(key[:31], nonce, extra, data), impl.ErrForm, nil)
			sameList(t, name+": nonce wrong", ask(key, nonce[:11], extra, data), impl.ErrForm, nil)
			sameList(t, name+": key and extra wrong", ask(someBytes(33), nonce, someBytes(61), data), impl.ErrForm, nil)
			sameList(t, name+": nonce and extra wrong", ask(key, someBytes(13), someBytes(61), data), impl.ErrForm, nil)
			// Key and nonce are told apart, though both have together what they should.
			sameList(t, name+": key for nonce", ask(nonce, key, extra, data), impl.ErrForm, nil)
			sameList(t, name+": one byte in the wrong one", ask(someBytes(31), someBytes(13), extra, data), impl.ErrForm, nil)
			// Of these some have fewer bytes than a tag: extra is asked ahead of that.
			sameList(t, name+": extra wrong", ask(key, nonce, someBytes(61), data), impl.ErrMany, nil)
		}
	}
	sameList(t, "sealed too short", impl.OpenBytes(key, nonce, extra, someBytes(15)), impl.ErrText, nil)
	sameList(t, "sealed too long, and not borne", impl.OpenBytes(key, nonce, extra, someBytes(237)), impl.ErrMany, nil)
	sameList(t, "sealed too long, and borne", impl.OpenBytes(key, nonce, extra, sealByHand(key, nonce, extra, someBytes(221))), impl.ErrMany, nil)
	sameList(t, "sealed not borne", impl.OpenBytes(key, nonce, extra, someBytes(236)), impl.ErrSign, nil)
}

func TestSealIsToldByStreamAndTag(t *testing.T) {
	for n := range 221 {
		key, nonce, extra, plain := someBytes(32), someBytes(12), someBytes(n%61), someBytes(n)
		content := impl.StreamXor(key, nonce, plain).Bytes
		tag := impl.TagOf(key, nonce, extra, content).Bytes
		sameList(t, "SealBytes by stream and tag", impl.SealBytes(key, nonce, extra, plain), impl.OK, slices.Concat(content, tag))
		mac := impl.MacOf(key, slices.Concat(nonce, []byte{byte(n % 61)}, extra, content))
		if mac.Code != impl.OK || !bytes.Equal(tag, mac.Bytes[:16]) {
			t.Errorf("TagOf %d bytes is %v, the mac %+v", n, tag, mac)
		}
	}
}

func TestP6SealedIsOpenedAgain(t *testing.T) {
	keys, nonces := [][]byte{make([]byte, 32), rising(32), someBytes(32)}, [][]byte{make([]byte, 12), nonceKnown(), someBytes(12)}
	for i := range keys {
		for n := range 221 {
			for _, m := range []int{0, 1, 60} {
				for _, plain := range [][]byte{someBytes(n), make([]byte, n)} {
					extra := someBytes(m)
					sealed := impl.SealBytes(keys[i], nonces[i], extra, plain)
					if sealed.Code != impl.OK || len(sealed.Bytes) != n+16 {
						t.Fatalf("SealBytes of %d bytes: %+v", n, sealed)
					}
					// Else what is sealed would be opened again, but was not hidden.
					if n >= 16 && bytes.Equal(sealed.Bytes[:n], plain) {
						t.Errorf("%d bytes are not hidden", n)
					}
					sameList(t, "what is sealed", impl.OpenBytes(keys[i], nonces[i], extra, sealed.Bytes), impl.OK, plain)
				}
			}
		}
	}
}

func TestP6TagAlone(t *testing.T) {
	key, nonce := someBytes(32), someBytes(12)
	for m := range 61 {
		extra := someBytes(m)
		tag := impl.TagOf(key, nonce, extra, nil)
		sameList(t, "a tag alone", impl.SealBytes(key, nonce, extra, nil), impl.OK, tag.Bytes)
		sameList(t, "a tag alone, opened", impl.OpenBytes(key, nonce, extra, tag.Bytes), impl.OK, nil)
		sameList(t, "a tag cut at its end", impl.OpenBytes(key, nonce, extra, tag.Bytes[:15]), impl.ErrText, nil)
		sameList(t, "a tag cut at its beginning", impl.OpenBytes(key, nonce, extra, tag.Bytes[1:]), impl.ErrText, nil)
		sameList(t, "a byte ahead of a tag", impl.OpenBytes(key, nonce, extra, slices.Concat([]byte{0}, tag.Bytes)), impl.ErrSign, nil)
		sameList(t, "a byte behind a tag", impl.OpenBytes(key, nonce, extra, slices.Concat(tag.Bytes, []byte{0})), impl.ErrSign, nil)
	}
}

// changed has one bit other than data.
func changed(data []byte, bit int) []byte {
	other := bytes.Clone(data)
	other[bit/8] ^= 1 << (bit % 8)
	return other
}

func TestP6EachBitIsBorne(t *testing.T) {
	key, nonce := someBytes(32), someBytes(12)
	for _, n := range []int{0, 1, 64, 65, 220} {
		for _, m := range []int{0, 1, 60} {
			extra := someBytes(m)
			sealed := sealByHand(key, nonce, extra, someBytes(n))
			for bit := range 8 * len(sealed) {
				sameList(t, "OpenBytes of a bit changed", impl.OpenBytes(key, nonce, extra, changed(sealed, bit)), impl.ErrSign, nil)
			}
			for bit := range 8 * len(key) {
				sameList(t, "OpenBytes by another key", impl.OpenBytes(changed(key, bit), nonce, extra, sealed), impl.ErrSign, nil)
			}
			for bit := range 8 * len(nonce) {
				sameList(t, "OpenBytes by another nonce", impl.OpenBytes(key, changed(nonce, bit), extra, sealed), impl.ErrSign, nil)
			}
			for bit := range 8 * len(extra) {
				sameList(t, "OpenBytes with another extra", impl.OpenBytes(key, nonce, changed(extra, bit), sealed), impl.ErrSign, nil)
			}
		}
	}
}

func TestP6OtherLengthsAreNotBorne(t *testing.T) {
	key, nonce, extra := someBytes(32), someBytes(12), someBytes(30)
	sealed := sealByHand(key, nonce, extra, someBytes(100))
	for n := range len(sealed) {
		code := firstCode(whenText(n < 16), impl.ErrSign)
		sameList(t, "a beginning of what is sealed", impl.OpenBytes(key, nonce, extra, sealed[:n]), code, nil)
		sameList(t, "an end of what is sealed", impl.OpenBytes(key, nonce, extra, sealed[len(sealed)-n:]), code, nil)
	}
	sameList(t, "a zero behind", impl.OpenBytes(key, nonce, extra, append(bytes.Clone(sealed), 0)), impl.ErrSign, nil)
	for m := range 61 {
		if m == 30 {
			continue
		}
		other := make([]byte, m)
		copy(other, extra)
		sameList(t, "an extra cut, or with zeros behind", impl.OpenBytes(key, nonce, other, sealed), impl.ErrSign, nil)
	}
	sameList(t, "no extra", impl.OpenBytes(key, nonce, nil, sealed), impl.ErrSign, nil)
}

func TestP6NoByteMovesUnseen(t *testing.T) {
	// The same bytes, cut elsewhere: only the length of extra tells them apart.
	key, nonce, whole := someBytes(32), someBytes(12), make([]byte, 60)
	seen := map[string]int{}
	for m := range 61 {
		got := impl.TagOf(key, nonce, whole[:m], whole[m:])
		if got.Code != impl.OK || len(got.Bytes) != 16 {
			t.Fatalf("TagOf: %+v", got)
		}
		if ahead, ok := seen[string(got.Bytes)]; ok {
			t.Errorf("the tag of an extra of %d bytes is that of %d", m, ahead)
		}
		seen[string(got.Bytes)] = m
	}
}

func TestFinishKnown(t *testing.T) {
	// RFC 8448, 3: the server's finished; and two reckoned by Python's hmac.
	rows := []struct{ key, digest, want string }{
		{"b67b7d690cc16c4e75e54213cb2d37b4e9c912bcded9105d42befd59d391ad38", "edb7725fa7a3473b031ec8ef65a2485493900138a2b91291407d7951a06110ed", "9b9b141d906337fbd2cbdce71df4deda4ab42c309572cb7fffee5454b78f0718"},
		{"0000000000000000000000000000000000000000000000000000000000000000", "0000000000000000000000000000000000000000000000000000000000000000", "efad8d582b0c6ea1848798a8693378f51bcc4ec897a75f7c1de4444466144b24"},
		{"000102030405060708090a0b0c0d0e0f101112131415161718191a1b1c1d1e1f", "ba7816bf8f01cfea414140de5dae2223b00361a396177a9cb410ff61f20015ad", "409e81be5967012460dd009ddd88bea262814901ecc2958b8e2cfcd644a5648c"},
	}
	for _, r := range rows {
		sameList(t, "FinishOf", impl.FinishOf(hexed(t, r.key), hexed(t, r.digest)), impl.OK, hexed(t, r.want))
	}
}

func listsOfFinish() [][]byte {
	return append(lists(0, 1, 12, 16, 31, 32, 33, 48, 63, 64, 65, 500, 501, 601), nil, make([]byte, 31), make([]byte, 32), make([]byte, 33), rising(32), bytes.Repeat([]byte{255}, 32))
}

func TestFinishOf(t *testing.T) {
	for _, key := range listsOfFinish() {
		for _, digest := range listsOfFinish() {
			code := whenForm(len(key) != 32 || len(digest) != 32)
			var want []byte
			if code == impl.OK {
				want = finishByHand(t, key, digest)
			}
			sameList(t, "FinishOf", impl.FinishOf(key, digest), code, want)
		}
	}
}

func TestP6FinishIsAMacByAKeyOfItsOwn(t *testing.T) {
	keys := [][]byte{make([]byte, 32), rising(32), someBytes(32)}
	for _, key := range keys {
		for _, digest := range keys {
			own := impl.ExpandLabel(key, "finished", nil, impl.KeyBytes)
			want := impl.MacOf(own.Bytes, digest)
			if own.Code != impl.OK || want.Code != impl.OK || bytes.Equal(own.Bytes, key) {
				t.Fatalf("the key %+v, the mac %+v", own, want)
			}
			got := impl.FinishOf(key, digest)
			sameList(t, "FinishOf", got, impl.OK, want.Bytes)
			if bytes.Equal(got.Bytes, impl.MacOf(key, digest).Bytes) {
				t.Error("FinishOf is a mac by the key itself")
			}
		}
	}
}

func TestP6FinishHangsOnEachBit(t *testing.T) {
	key, digest := someBytes(32), rising(32)
	seen := map[string]bool{string(impl.FinishOf(key, digest).Bytes): true}
	for bit := range 256 {
		for _, got := range []impl.BytesResult{impl.FinishOf(changed(key, bit), digest), impl.FinishOf(key, changed(digest, bit))} {
			if got.Code != impl.OK || len(got.Bytes) != 32 || seen[string(got.Bytes)] {
				t.Fatalf("FinishOf of bit %d changed: %+v", bit, got)
			}
			seen[string(got.Bytes)] = true
		}
	}
}

// stays tells whether a roomy list is as it was, with what lies behind it.
func stays(list []byte, was []byte) bool {
	return bytes.Equal(list[:len(was)+200], slices.Concat(was, bytes.Repeat([]byte{0xa5}, 200)))
}

func TestP1SealArgumentsStay(t *testing.T) {
	for _, n := range []int{0, 31, 32, 33} {
		for _, m := range []int{0, 11, 12, 13} {
			for _, e := range []int{0, 1, 60, 61} {
				for _, l := range []int{0, 1, 15, 16, 17, 32, 64, 65, 220, 221, 236, 237} {
					was := lists(n, m, e, l)
					key, nonce, extra, data := roomyFor(was[0]), roomyFor(was[1]), roomyFor(was[2]), roomyFor(was[3])
					impl.SealBytes(key, nonce, extra, data)
					impl.OpenBytes(key, nonce, extra, data)
					impl.TagOf(key, nonce, extra, data)
					impl.FinishOf(key, data)
					if !stays(key, was[0]) || !stays(nonce, was[1]) || !stays(extra, was[2]) || !stays(data, was[3]) {
						t.Errorf("an argument of %d, %d, %d and %d bytes is changed", n, m, e, l)
					}
				}
			}
		}
	}
	// What is opened as well, not only what is refused.
	for _, n := range []int{0, 1, 64, 65, 220} {
		was := sealByHand(someBytes(32), someBytes(12), someBytes(5), someBytes(n))
		sealed := roomyFor(was)
		impl.OpenBytes(someBytes(32), someBytes(12), someBytes(5), sealed)
		if !stays(sealed, was) {
			t.Errorf("what is sealed of %d bytes is changed", n)
		}
	}
}

// sealAsks are the functions of the chapter that take any data; OpenBytes has
// tests of its own, as it takes only what is sealed.
func sealAsks() map[string]func(key, nonce, extra, data []byte) impl.BytesResult {
	return map[string]func(key, nonce, extra, data []byte) impl.BytesResult{
		"SealBytes": impl.SealBytes,
		"TagOf":     impl.TagOf,
		"FinishOf": func(key, nonce, extra, data []byte) impl.BytesResult {
			return impl.FinishOf(key, key)
		},
	}
}

func TestP1SealAnswersAreNewMemory(t *testing.T) {
	for name, ask := range sealAsks() {
		for _, n := range []int{0, 1, 64, 65, 220} {
			key, nonce, extra, data := someBytes(32), someBytes(12), someBytes(60), someBytes(n)
			first := ask(key, nonce, extra, data)
			want := bytes.Clone(first.Bytes)
			second := ask(key, nonce, extra, data)
			spoil(first.Bytes)
			sameList(t, name+" told ahead", second, impl.OK, want)
			for i, list := range [][]byte{key, nonce, extra, data} {
				sameList(t, "its argument", impl.BytesResult{Bytes: list}, impl.OK, lists(32, 12, 60, n)[i])
			}
			sameList(t, name+" told behind", ask(key, nonce, extra, data), impl.OK, want)
			for _, list := range [][]byte{key, nonce, extra, data} {
				spoil(list)
			}
			sameList(t, name+" of what is changed behind it", second, impl.OK, want)
		}
	}
}

func TestP1OpenAnswersAreNewMemory(t *testing.T) {
	for _, n := range []int{0, 1, 64, 65, 220} {
		key, nonce, extra, plain := someBytes(32), someBytes(12), someBytes(60), someBytes(n)
		sealed := sealByHand(key, nonce, extra, plain)
		was := bytes.Clone(sealed)
		first := impl.OpenBytes(key, nonce, extra, sealed)
		second := impl.OpenBytes(key, nonce, extra, sealed)
		spoil(first.Bytes)
		sameList(t, "OpenBytes told ahead", second, impl.OK, plain)
		sameList(t, "what is sealed", impl.BytesResult{Bytes: sealed}, impl.OK, was)
		sameList(t, "OpenBytes told behind", impl.OpenBytes(key, nonce, extra, sealed), impl.OK, plain)
		for _, list := range [][]byte{key, nonce, extra, sealed} {
			spoil(list)
		}
		sameList(t, "OpenBytes of what is changed behind it", second, impl.OK, plain)
	}
}

func TestP1SealOfOneListFourTimes(t *testing.T) {
	// Key, nonce, extra and data may lie in one memory.
	for name, ask := range sealAsks() {
		whole := someBytes(32)
		want := ask(someBytes(32), someBytes(32)[:12], someBytes(32)[5:25], someBytes(32)[20:]).Bytes
		sameList(t, name+" of one list", ask(whole, whole[:12], whole[5:25], whole[20:]), impl.OK, want)
		sameList(t, "that list", impl.BytesResult{Bytes: whole}, impl.OK, someBytes(32))
	}
	whole := someBytes(32)
	whole = append(whole, sealByHand(whole, whole[:12], whole[5:25], whole[20:])...)
	was := bytes.Clone(whole)
	sameList(t, "OpenBytes of one list", impl.OpenBytes(whole[:32], whole[:12], whole[5:25], whole[32:]), impl.OK, someBytes(32)[20:])
	sameList(t, "that list", impl.BytesResult{Bytes: whole}, impl.OK, was)
}

func TestP1SealHangsOnArgumentsAlone(t *testing.T) {
	key, nonce, extra, plain := someBytes(32), someBytes(12), someBytes(9), someBytes(150)
	sealed := sealByHand(key, nonce, extra, plain)
	ask := func() {
		sameList(t, "SealBytes", impl.SealBytes(key, nonce, extra, plain), impl.OK, sealed)
		sameList(t, "OpenBytes", impl.OpenBytes(key, nonce, extra, sealed), impl.OK, plain)
		sameList(t, "TagOf", impl.TagOf(key, nonce, extra, plain), impl.OK, tagByHand(key, nonce, extra, plain))
		sameList(t, "FinishOf", impl.FinishOf(key, rising(32)), impl.OK, finishByHand(t, key, rising(32)))
	}
	ask()
	for _, n := range []int{0, 15, 16, 220, 237, math.MaxInt16} {
		impl.SealBytes(rising(32), nonceKnown(), rising(60), someBytes(n))
		impl.OpenBytes(rising(32), nonceKnown(), rising(60), someBytes(n))
		impl.TagOf(rising(32), nonceKnown(), rising(61), someBytes(n))
		impl.FinishOf(rising(32), someBytes(n))
	}
	impl.OpenBytes(key, nonce, extra, changed(sealed, 0))
	impl.FinishOf(rising(32), rising(32))
	ask()
}

func TestP1SealOfNothing(t *testing.T) {
	// Nothing, be it nil or empty, is one value.
	key, nonce := rising(32), nonceKnown()
	sealed := impl.SealBytes(key, nonce, []byte{}, []byte{})
	sameList(t, "SealBytes of nil", impl.SealBytes(key, nonce, nil, nil), sealed.Code, sealed.Bytes)
	sameList(t, "TagOf nil", impl.TagOf(key, nonce, nil, nil), impl.OK, impl.TagOf(key, nonce, []byte{}, []byte{}).Bytes)
	sameList(t, "OpenBytes without extra", impl.OpenBytes(key, nonce, nil, sealed.Bytes), impl.OK, nil)
	sameList(t, "OpenBytes with an empty extra", impl.OpenBytes(key, nonce, []byte{}, sealed.Bytes), impl.OK, nil)
	for _, none := range [][]byte{nil, {}} {
		sameList(t, "SealBytes without a key", impl.SealBytes(none, nonce, nil, nil), impl.ErrForm, nil)
		sameList(t, "SealBytes without a nonce", impl.SealBytes(key, none, nil, nil), impl.ErrForm, nil)
		sameList(t, "TagOf without a key", impl.TagOf(none, nonce, nil, nil), impl.ErrForm, nil)
		sameList(t, "TagOf without a nonce", impl.TagOf(key, none, nil, nil), impl.ErrForm, nil)
		sameList(t, "OpenBytes without a key", impl.OpenBytes(none, nonce, nil, sealed.Bytes), impl.ErrForm, nil)
		sameList(t, "OpenBytes without a nonce", impl.OpenBytes(key, none, nil, sealed.Bytes), impl.ErrForm, nil)
		sameList(t, "OpenBytes of nothing", impl.OpenBytes(key, nonce, nil, none), impl.ErrText, nil)
		sameList(t, "FinishOf without a key", impl.FinishOf(none, key), impl.ErrForm, nil)
		sameList(t, "FinishOf without a digest", impl.FinishOf(key, none), impl.ErrForm, nil)
		sameList(t, "FinishOf nothing", impl.FinishOf(none, none), impl.ErrForm, nil)
	}
}
