package tests

import (
	"bytes"
	"math"
	"slices"
	"testing"

	"loop.example/g00375/impl"
)

// keysOfRecordByHand and the like are what the program's answers are held
// against.
func keysOfRecordByHand(t *testing.T, secret []byte) ([]byte, []byte) {
	t.Helper()
	return expandByLibrary(t, secret, labelByHand("key", nil, 32), 32), expandByLibrary(t, secret, labelByHand("iv", nil, 12), 12)
}

func updateByHand(t *testing.T, x impl.Stream) impl.Stream {
	t.Helper()
	return impl.Stream{Secret: expandByLibrary(t, x.Secret, labelByHand("traffic upd", nil, 32), 32), Epoch: x.Epoch + 1}
}

// headByHand are the five bytes ahead of as many others as n tells.
func headByHand(n int) []byte {
	return []byte{23, 3, 3, byte(n / 256), byte(n % 256)}
}

// sealedRecord is the record of any content, be it that of a record or not.
func sealedRecord(t *testing.T, x impl.Stream, content []byte) []byte {
	t.Helper()
	key, base := keysOfRecordByHand(t, x.Secret)
	head := headByHand(len(content) + 16)
	return slices.Concat(head, sealByHand(key, nonceByHand(base, x.Seq), head, content))
}

func contentByHand(kind int64, plain []byte, pad int64) []byte {
	return slices.Concat(plain, []byte{byte(kind)}, make([]byte, pad))
}

func recordByHand(t *testing.T, x impl.Stream, kind int64, plain []byte, pad int64) []byte {
	t.Helper()
	return sealedRecord(t, x, contentByHand(kind, plain, pad))
}

// oneOn is the stream behind one more record.
func oneOn(x impl.Stream) impl.Stream {
	return impl.Stream{Secret: bytes.Clone(x.Secret), Seq: x.Seq + 1, Epoch: x.Epoch}
}

func streamFaultByHand(x impl.Stream) int64 {
	return firstCode(whenForm(len(x.Secret) != 32), whenRange(x.Seq < 0 || x.Seq > 200 || x.Epoch < 0 || x.Epoch > 99))
}

func whenLimit(fault bool) int64 {
	if fault {
		return impl.ErrLimit
	}
	return impl.OK
}

func hasNoRecordKind(kind int64) bool {
	return kind != 21 && kind != 22 && kind != 23
}

func codeOfSend(x impl.Stream, kind int64, plain []byte, pad int64) int64 {
	return firstCode(streamFaultByHand(x), whenLimit(x.Seq == 200), whenRange(hasNoRecordKind(kind) || pad < 0 || pad > 16), whenAbove(len(plain), 200))
}

// sentByHand is all that SendRecord should answer.
func sentByHand(t *testing.T, x impl.Stream, kind int64, plain []byte, pad int64) impl.RecordResult {
	t.Helper()
	code := codeOfSend(x, kind, plain, pad)
	if code != impl.OK {
		return impl.RecordResult{Code: code}
	}
	return impl.RecordResult{Kind: kind, Bytes: recordByHand(t, x, kind, plain, pad), Stream: oneOn(x)}
}

// heardByHand is all that HearRecord should answer. It looks for the kind from
// the beginning on, and keeps the last that it finds.
func heardByHand(t *testing.T, x impl.Stream, record []byte) impl.RecordResult {
	t.Helper()
	code := firstCode(streamFaultByHand(x), whenLimit(x.Seq == 200), whenText(!bytes.HasPrefix(record, []byte{23, 3, 3}) || len(record) < 5))
	if code != impl.OK {
		return impl.RecordResult{Code: code}
	}
	head, sealed := record[:5], record[5:]
	code = firstCode(whenText(int(head[3])*256+int(head[4]) != len(sealed)), whenText(len(sealed) < 16), whenAbove(len(sealed), 236))
	if code != impl.OK {
		return impl.RecordResult{Code: code}
	}
	key, base := keysOfRecordByHand(t, x.Secret)
	nonce := nonceByHand(base, x.Seq)
	content := sealed[:len(sealed)-16]
	if !bytes.Equal(tagByHand(key, nonce, head, content), sealed[len(sealed)-16:]) {
		return impl.RecordResult{Code: impl.ErrSign}
	}
	at := -1
	plain := xorByHand(key, nonce, content)
	for i, b := range plain {
		if b != 0 {
			at = i
		}
	}
	if at < 0 {
		return impl.RecordResult{Code: impl.ErrForm}
	}
	code = firstCode(whenRange(hasNoRecordKind(int64(plain[at]))), whenAbove(at, 200))
	if code != impl.OK {
		return impl.RecordResult{Code: code}
	}
	return impl.RecordResult{Kind: int64(plain[at]), Bytes: plain[:at], Stream: oneOn(x)}
}

// cutByHand goes on by what is left, not by places.
func cutByHand(data []byte) impl.BlocksResult {
	if len(data) > 600 {
		return impl.BlocksResult{Code: impl.ErrMany}
	}
	var list [][]byte
	for rest := data; len(rest) > 0; {
		if len(rest) < 5 {
			return impl.BlocksResult{Code: impl.ErrText}
		}
		length := int(rest[3])*256 + int(rest[4])
		code := firstCode(whenRange(length > 240), whenText(len(rest) < 5+length), whenAbove(len(list)+1, 8))
		if code != impl.OK {
			return impl.BlocksResult{Code: code}
		}
		list = append(list, bytes.Clone(rest[:5+length]))
		rest = rest[5+length:]
	}
	return impl.BlocksResult{Blocks: list}
}

func alikeStreams(a impl.Stream, b impl.Stream) bool {
	return bytes.Equal(a.Secret, b.Secret) && a.Seq == b.Seq && a.Epoch == b.Epoch
}

func sameRecord(t *testing.T, name string, got impl.RecordResult, want impl.RecordResult) {
	t.Helper()
	if got.Code != want.Code || got.Kind != want.Kind || !bytes.Equal(got.Bytes, want.Bytes) || !alikeStreams(got.Stream, want.Stream) {
		t.Errorf("%s: %+v, want %+v", name, got, want)
	}
}

func refused(t *testing.T, name string, got impl.RecordResult, code int64) {
	t.Helper()
	sameRecord(t, name, got, impl.RecordResult{Code: code})
}

func sameKeys(t *testing.T, name string, got impl.KeysResult, code int64, key []byte, base []byte) {
	t.Helper()
	if got.Code != code || !bytes.Equal(got.Key, key) || !bytes.Equal(got.Base, base) {
		t.Errorf("%s: %+v, want code %d, key %v, base %v", name, got, code, key, base)
	}
}

// streamOf has a secret without a pattern.
func streamOf(seq int64, epoch int64) impl.Stream {
	return impl.Stream{Secret: someBytes(32), Seq: seq, Epoch: epoch}
}

// secretsOfRecords and the like have the edges, inside the bounds and outside
// them.
func secretsOfRecords() [][]byte {
	return append(lists(0, 1, 12, 31, 32, 33, 64, 65), nil, make([]byte, 31), make([]byte, 32), make([]byte, 33), rising(32))
}

// seqsOfRecords has numbers that would be inside the bounds if their higher
// bits were dropped.
func seqsOfRecords() []int64 {
	return []int64{-1, 0, 1, 100, 198, 199, 200, 201, 202, 255, 256, 257, 1 << 16, 1 << 31, 1 << 32, 1<<32 + 5, -200, -(1 << 32), math.MinInt64, math.MinInt64 + 1, math.MaxInt64}
}

func epochsOfRecords() []int64 {
	return []int64{-1, 0, 1, 50, 97, 98, 99, 100, 101, 200, 256, 257, 1 << 32, 1<<32 + 7, -99, math.MinInt64, math.MinInt64 + 1, math.MaxInt64}
}

func kindsOfRecords() []int64 {
	return []int64{-1, 0, 1, 19, 20, 21, 22, 23, 24, 25, 255, 256 + 20, 256 + 21, 256 + 23, 21 - 256, 1<<32 + 22, 23 - 1<<32, math.MinInt64, math.MinInt64 + 23, math.MaxInt64}
}

func padsOfRecords() []int64 {
	return []int64{-1, 0, 1, 3, 15, 16, 17, 18, 219, 256, 256 + 3, 1 << 32, 1<<32 + 3, 1 << 62, -16, math.MinInt64, math.MinInt64 + 5, math.MaxInt64}
}

func plainsOfRecords() [][]byte {
	zeros := slices.Concat(someBytes(4), make([]byte, 5))
	return append(lists(0, 1, 2, 64, 199, 200, 201, 202, 256, 601), nil, zeros, []byte{0}, []byte{23}, []byte{23, 0}, make([]byte, 200), make([]byte, 201), bytes.Repeat([]byte{22}, 200))
}

func goodStreams() []impl.Stream {
	return []impl.Stream{
		{Secret: make([]byte, 32)}, {Secret: rising(32), Seq: 1}, {Secret: someBytes(32), Seq: 100, Epoch: 50},
		{Secret: bytes.Repeat([]byte{255}, 32), Seq: 199, Epoch: 99}, {Secret: rising(32), Seq: 198, Epoch: 98},
	}
}

// goodPlains are short enough; many of them end in zeros, or in what is a kind.
func goodPlains() [][]byte {
	return slices.DeleteFunc(plainsOfRecords(), func(b []byte) bool { return len(b) > 200 })
}

func TestRecordConstants(t *testing.T) {
	if impl.MaxSeq != 200 || impl.KindAlert != 21 || impl.KindShake != 22 || impl.KindData != 23 {
		t.Error(impl.MaxSeq, impl.KindAlert, impl.KindShake, impl.KindData)
	}
}

func TestKeysOfRecordsKnown(t *testing.T) {
	// Reckoned by Python's hmac; the base of the last one stands in RFC 8448, 3.
	rows := []struct{ secret, key, base, next string }{
		{"0000000000000000000000000000000000000000000000000000000000000000", "0ac208433b007cc53760c8c2eba09c42f1eab3390dd010a894554ee594f0d7c6", "3f22fbb61c1412e692986d64", "6332e2593a296a14c6899a806d3cb01f8565c17a5002e5ab4bcd2e79a6811b84"},
		{"000102030405060708090a0b0c0d0e0f101112131415161718191a1b1c1d1e1f", "2ffbc449e87844051c7768f61ffd8ad070830f01ec2c520ef65f08e8296dffa0", "2f41c846a431a163814bcd71", "2cecd0a17506ef5fa73edc062d6e7b5397cf074ec1b4d8f99a120772932f0b45"},
		{"ffffffffffffffffffffffffffffffffffffffffffffffffffffffffffffffff", "1af32585d3c484e7e1c66f7546f7d2bfe1507d5e209ea0286931c7fd1b676a71", "a3d23d8f906f64c0acb9713f", "7a49d66580d757748a54c1a08b6c60e5020d15359c04eb88a6862bd15d4adc48"},
		{"b67b7d690cc16c4e75e54213cb2d37b4e9c912bcded9105d42befd59d391ad38", "ac70443f7fe3bdaf568b1dcdb0a7f3fea098bca189c3455ba41fcd9d488348a4", "5d313eb2671276ee13000b30", "c5847ffa1bfea2d5c409eee45d2813181327a78a52ee6d02d8a5e10fbf0fface"},
	}
	for _, r := range rows {
		secret := hexed(t, r.secret)
		sameKeys(t, "KeysOf", impl.KeysOf(secret), impl.OK, hexed(t, r.key), hexed(t, r.base))
		want := impl.Stream{Secret: hexed(t, r.next), Epoch: 8}
		sameRecord(t, "UpdateStream", impl.UpdateStream(impl.Stream{Secret: secret, Seq: 5, Epoch: 7}), impl.RecordResult{Stream: want})
	}
}

func TestRecordsKnown(t *testing.T) {
	// Reckoned by OpenSSL's ChaCha20 and Python's hmac.
	rows := []struct {
		secret    []byte
		seq, kind int64
		plain     []byte
		pad       int64
		want      string
	}{
		{make([]byte, 32), 0, 23, []byte{1, 0}, 3, "17030300161afa2b6210961e65e67731b02d3c99cf7a3d1826ce34"},
		{rising(32), 1, 22, []byte("hello"), 0, "170303001663d059b6e83a1a5b96f3a7c180955fcda87861dd0b82"},
		{rising(32), 199, 21, nil, 0, "17030300113377953562be1ead8549ab9a95afad1333"},
		{bytes.Repeat([]byte{255}, 32), 5, 23, []byte("Who one is, told behind a handshake"), 16,
			"17030300440e9af73c843e3e8592e61595b083faaf252bb397e0a7dba79f010ec8644c7b87e84d20e5d6ca0d2ed7c1e2fdb8cf20efae5d82a6a712c5106be86811e7246535360c680c"},
	}
	for _, r := range rows {
		record := hexed(t, r.want)
		// An epoch is told by the secret alone: it changes no byte of a record.
		for _, epoch := range []int64{0, 1, 99} {
			x := impl.Stream{Secret: r.secret, Seq: r.seq, Epoch: epoch}
			sameRecord(t, "SendRecord", impl.SendRecord(x, r.kind, r.plain, r.pad), impl.RecordResult{Kind: r.kind, Bytes: record, Stream: oneOn(x)})
			sameRecord(t, "HearRecord", impl.HearRecord(x, record), impl.RecordResult{Kind: r.kind, Bytes: r.plain, Stream: oneOn(x)})
		}
	}
}

// eachStream goes through streams with all secrets, numbers and epochs.
func eachStream(visit func(x impl.Stream)) {
	for _, secret := range secretsOfRecords() {
		for _, seq := range seqsOfRecords() {
			for _, epoch := range epochsOfRecords() {
				visit(impl.Stream{Secret: secret, Seq: seq, Epoch: epoch})
			}
		}
	}
}

func TestStreamFaultAndUpdateStream(t *testing.T) {
	eachStream(func(x impl.Stream) {
		code := streamFaultByHand(x)
		if got := impl.StreamFault(x); got != code {
			t.Errorf("StreamFault of %+v is %d, want %d", x, got, code)
		}
		want := impl.RecordResult{Code: firstCode(code, whenLimit(x.Epoch == 99))}
		if want.Code == impl.OK {
			want.Stream = updateByHand(t, x)
		}
		sameRecord(t, "UpdateStream", impl.UpdateStream(x), want)
		if code != impl.OK {
			refused(t, "SendRecord by a stream with a fault", impl.SendRecord(x, 23, nil, 0), code)
			refused(t, "HearRecord by a stream with a fault", impl.HearRecord(x, headByHand(0)), code)
			// Whatever else is wrong, the stream is asked first.
			refused(t, "SendRecord, all wrong", impl.SendRecord(x, 24, someBytes(201), 17), code)
			refused(t, "HearRecord, all wrong", impl.HearRecord(x, nil), code)
		}
	})
}

func TestEpochsAndNumbersAtTheirEnds(t *testing.T) {
	refused(t, "UpdateStream of the last epoch", impl.UpdateStream(streamOf(0, 99)), impl.ErrLimit)
	refused(t, "UpdateStream of the last epoch, at its end", impl.UpdateStream(streamOf(200, 99)), impl.ErrLimit)
	// A stream without room for a record has room for new keys, and the other way round.
	sameRecord(t, "UpdateStream at the end", impl.UpdateStream(streamOf(200, 98)), impl.RecordResult{Stream: updateByHand(t, streamOf(200, 98))})
	x := streamOf(199, 99)
	sameRecord(t, "SendRecord, the last one", impl.SendRecord(x, 22, someBytes(3), 2), sentByHand(t, x, 22, someBytes(3), 2))
	for _, epoch := range []int64{0, 98, 99} {
		refused(t, "SendRecord at the end", impl.SendRecord(streamOf(200, epoch), 23, nil, 0), impl.ErrLimit)
		record := recordByHand(t, streamOf(200, epoch), 23, nil, 0)
		refused(t, "HearRecord at the end", impl.HearRecord(streamOf(200, epoch), record), impl.ErrLimit)
		if impl.StreamFault(streamOf(200, epoch)) != impl.OK {
			t.Error("a stream at its end has a fault")
		}
	}
}

func TestKeysOf(t *testing.T) {
	for _, secret := range append(secretsOfRecords(), goodKeys()...) {
		if len(secret) != 32 {
			sameKeys(t, "KeysOf no secret", impl.KeysOf(secret), impl.ErrForm, nil, nil)
			continue
		}
		key, base := keysOfRecordByHand(t, secret)
		sameKeys(t, "KeysOf", impl.KeysOf(secret), impl.OK, key, base)
		sameKeys(t, "KeysOf by labels", impl.KeysOf(secret), impl.OK, impl.ExpandLabel(secret, "key", nil, 32).Bytes, impl.ExpandLabel(secret, "iv", nil, 12).Bytes)
	}
}

func TestSendRecord(t *testing.T) {
	streams := append(goodStreams(), streamOf(200, 0), streamOf(201, 0), streamOf(-1, 3), streamOf(0, 100), impl.Stream{}, impl.Stream{Secret: someBytes(31)}, impl.Stream{Secret: someBytes(33), Seq: 200})
	for _, x := range streams {
		for _, kind := range kindsOfRecords() {
			for _, pad := range padsOfRecords() {
				for _, plain := range plainsOfRecords() {
					sameRecord(t, "SendRecord", impl.SendRecord(x, kind, plain, pad), sentByHand(t, x, kind, plain, pad))
				}
			}
		}
	}
}

func TestSendRecordToEachLength(t *testing.T) {
	for n := range 203 {
		for _, pad := range []int64{0, 1, 16} {
			x := streamOf(int64(n%200), int64(n%100))
			got := impl.SendRecord(x, 21+int64(n%3), someBytes(n), pad)
			sameRecord(t, "SendRecord", got, sentByHand(t, x, 21+int64(n%3), someBytes(n), pad))
			if n <= 200 && len(got.Bytes) != 22+n+int(pad) {
				t.Errorf("a record of %d bytes and %d zeros has %d", n, pad, len(got.Bytes))
			}
		}
	}
}

func TestSendCodesInOrder(t *testing.T) {
	long, good, full := someBytes(201), streamOf(0, 0), streamOf(200, 0)
	for _, secret := range [][]byte{nil, {}, someBytes(31), someBytes(33)} {
		refused(t, "secret and seq wrong", impl.SendRecord(impl.Stream{Secret: secret, Seq: 201}, 23, nil, 0), impl.ErrForm)
		refused(t, "secret and epoch wrong", impl.SendRecord(impl.Stream{Secret: secret, Epoch: 100}, 23, nil, 0), impl.ErrForm)
		refused(t, "secret wrong, at the end", impl.SendRecord(impl.Stream{Secret: secret, Seq: 200}, 20, long, 17), impl.ErrForm)
	}
	refused(t, "at the end, epoch wrong", impl.SendRecord(streamOf(200, 100), 23, nil, 0), impl.ErrRange)
	for _, kind := range []int64{20, 24, 0, math.MinInt64, math.MaxInt64} {
		refused(t, "at the end, kind wrong", impl.SendRecord(full, kind, nil, 0), impl.ErrLimit)
		refused(t, "kind wrong, plain too long", impl.SendRecord(good, kind, long, 0), impl.ErrRange)
		refused(t, "kind and pad wrong", impl.SendRecord(good, kind, nil, kind), impl.ErrRange)
	}
	for _, pad := range []int64{-1, 17, math.MinInt64, math.MaxInt64} {
		refused(t, "at the end, pad wrong", impl.SendRecord(full, 23, nil, pad), impl.ErrLimit)
		refused(t, "pad wrong, plain too long", impl.SendRecord(good, 23, long, pad), impl.ErrRange)
	}
	refused(t, "at the end, plain too long", impl.SendRecord(full, 23, long, 0), impl.ErrLimit)
	refused(t, "at the end, all wrong", impl.SendRecord(full, 24, long, 17), impl.ErrLimit)
	refused(t, "plain too long", impl.SendRecord(good, 23, long, 16), impl.ErrMany)
}

func TestHearRecordOfContents(t *testing.T) {
	// All that can be sealed and is a record, or nearly one.
	for _, x := range goodStreams() {
		for _, kind := range []int64{0, 1, 20, 21, 22, 23, 24, 128, 255} {
			for _, n := range []int{0, 1, 2, 63, 198, 199, 200, 201, 202, 218, 219} {
				for _, pad := range []int{0, 1, 2, 16, 17, 18, 19, 20, 100, 218, 219} {
					if n+1+pad > 220 {
						continue
					}
					for _, plain := range [][]byte{someBytes(n), make([]byte, n), bytes.Repeat([]byte{23}, n)} {
						record := recordByHand(t, x, kind, plain, int64(pad))
						sameRecord(t, "HearRecord", impl.HearRecord(x, record), heardByHand(t, x, record))
					}
				}
			}
		}
	}
}

func TestHearRecordOfZeros(t *testing.T) {
	for _, x := range goodStreams() {
		for n := range 221 {
			refused(t, "only zeros", impl.HearRecord(x, sealedRecord(t, x, make([]byte, n))), impl.ErrForm)
		}
		// Zeros ahead of the kind are plain bytes, those behind it are not.
		for n := range 201 {
			want := impl.RecordResult{Kind: 23, Bytes: make([]byte, n), Stream: oneOn(x)}
			sameRecord(t, "zeros that are plain", impl.HearRecord(x, sealedRecord(t, x, contentByHand(23, make([]byte, n), 0))), want)
			sameRecord(t, "zeros on both sides", impl.HearRecord(x, sealedRecord(t, x, contentByHand(23, make([]byte, n), int64(220-1-n)))), want)
		}
	}
}

func TestHearRecordAtTheLimit(t *testing.T) {
	x := streamOf(7, 3)
	long := func(n int, kind byte, pad int) []byte {
		return sealedRecord(t, x, slices.Concat(someBytes(n), []byte{kind}, make([]byte, pad)))
	}
	sameRecord(t, "200 plain bytes", impl.HearRecord(x, long(200, 21, 19)), impl.RecordResult{Kind: 21, Bytes: someBytes(200), Stream: oneOn(x)})
	refused(t, "201 plain bytes", impl.HearRecord(x, long(201, 23, 0)), impl.ErrMany)
	refused(t, "201 plain bytes, and zeros", impl.HearRecord(x, long(201, 23, 18)), impl.ErrMany)
	refused(t, "219 plain bytes", impl.HearRecord(x, long(219, 23, 0)), impl.ErrMany)
	refused(t, "201 plain bytes, and no kind", impl.HearRecord(x, long(201, 24, 0)), impl.ErrRange)
	// One byte more cannot be opened, though it is borne.
	refused(t, "221 bytes are sealed", impl.HearRecord(x, sealedRecord(t, x, contentByHand(23, nil, 220))), impl.ErrMany)
	refused(t, "only 221 zeros are sealed", impl.HearRecord(x, sealedRecord(t, x, make([]byte, 221))), impl.ErrMany)
	for _, n := range []int{237, 240, 241, 255, 256, 272, 600, 65535} {
		refused(t, "more than can be opened", impl.HearRecord(x, append(headByHand(n), make([]byte, n)...)), impl.ErrMany)
	}
	for n := range 16 {
		refused(t, "fewer than a tag", impl.HearRecord(x, append(headByHand(n), make([]byte, n)...)), impl.ErrText)
	}
	for n := 16; n <= 236; n++ {
		refused(t, "what nobody sealed", impl.HearRecord(x, append(headByHand(n), make([]byte, n)...)), impl.ErrSign)
	}
}

func TestHearRecordCutOrLengthened(t *testing.T) {
	x := streamOf(9, 1)
	for _, n := range []int{0, 1, 100, 200} {
		record := recordByHand(t, x, 22, someBytes(n), 4)
		for at := range len(record) {
			refused(t, "a beginning of a record", impl.HearRecord(x, record[:at]), impl.ErrText)
			if at > 0 {
				refused(t, "an end of a record", impl.HearRecord(x, record[at:]), heardByHand(t, x, record[at:]).Code)
			}
			if at >= 5 {
				// A beginning that tells its own length is a record, and is not borne.
				cut := append(headByHand(at-5), record[5:at]...)
				refused(t, "a beginning that tells its length", impl.HearRecord(x, cut), firstCode(whenText(at-5 < 16), impl.ErrSign))
			}
		}
		for _, more := range [][]byte{{0}, {23}, make([]byte, 16), make([]byte, 256), make([]byte, 65536), record} {
			refused(t, "a record with more behind it", impl.HearRecord(x, slices.Concat(record, more)), impl.ErrText)
			refused(t, "a record with more ahead of it", impl.HearRecord(x, slices.Concat(more, record)), impl.ErrText)
		}
		longer := append(headByHand(len(record)-5+1), append(bytes.Clone(record[5:]), 0)...)
		refused(t, "a zero behind, and told", impl.HearRecord(x, longer), heardByHand(t, x, longer).Code)
	}
}

func TestHearRecordChangedAtOneByte(t *testing.T) {
	x := streamOf(9, 1)
	for _, n := range []int{0, 1, 200} {
		record := recordByHand(t, x, 23, someBytes(n), 2)
		for bit := range 8 * len(record) {
			// What stands in the head cannot be read, what stands behind it is not borne.
			code := firstCode(whenText(bit < 8*5), impl.ErrSign)
			refused(t, "a record of a bit changed", impl.HearRecord(x, changed(record, bit)), code)
		}
		for at := range 3 {
			for b := range 256 {
				other := bytes.Clone(record)
				other[at] = byte(b)
				sameRecord(t, "a record of another head", impl.HearRecord(x, other), heardByHand(t, x, other))
			}
		}
		zeros := append(bytes.Clone(record[:5]), make([]byte, len(record)-5)...)
		refused(t, "a record whose sealed bytes are all zeros", impl.HearRecord(x, zeros), impl.ErrSign)
	}
	// The head is borne as well: the same sealed bytes under another head are not.
	key, base := keysOfRecordByHand(t, x.Secret)
	for _, extra := range [][]byte{nil, {23, 3, 1, 0, 17}, {22, 3, 3, 0, 17}, headByHand(1), headByHand(18)} {
		sealed := sealByHand(key, nonceByHand(base, x.Seq), extra, []byte{23})
		refused(t, "another extra", impl.HearRecord(x, append(headByHand(17), sealed...)), impl.ErrSign)
	}
}

func TestHearCodesInOrder(t *testing.T) {
	good, full := streamOf(3, 4), streamOf(200, 4)
	only := sealedRecord(t, good, make([]byte, 9))
	for _, record := range [][]byte{nil, {}, {23}, {23, 3, 3, 0}, {22, 3, 3, 0, 0}, someBytes(300), only} {
		for _, secret := range [][]byte{nil, someBytes(31), someBytes(33)} {
			refused(t, "secret wrong", impl.HearRecord(impl.Stream{Secret: secret, Seq: 200, Epoch: 100}, record), impl.ErrForm)
		}
		refused(t, "epoch wrong, at the end", impl.HearRecord(streamOf(200, 100), record), impl.ErrRange)
		refused(t, "at the end", impl.HearRecord(full, record), impl.ErrLimit)
	}
	for _, record := range [][]byte{nil, {}, {23}, {23, 3}, {23, 3, 3}, {23, 3, 3, 0}, {23, 3, 3, 0, 0}, {23, 3, 3, 0, 1}, {23, 3, 3, 255, 255}} {
		refused(t, "few bytes", impl.HearRecord(good, record), impl.ErrText)
	}
	// A head that is wrong, or a length, is told ahead of what cannot be opened.
	refused(t, "too long, another head", impl.HearRecord(good, append([]byte{22, 3, 3, 1, 0}, make([]byte, 256)...)), impl.ErrText)
	refused(t, "too long, another length", impl.HearRecord(good, append([]byte{23, 3, 3, 1, 1}, make([]byte, 256)...)), impl.ErrText)
	refused(t, "too long, a length of which one byte is so", impl.HearRecord(good, append([]byte{23, 3, 3, 1, 20}, make([]byte, 20)...)), impl.ErrText)
	refused(t, "not borne, and only zeros", impl.HearRecord(streamOf(2, 4), only), impl.ErrSign)
	refused(t, "borne, and only zeros", impl.HearRecord(good, only), impl.ErrForm)
}

func TestCutRecordsKnown(t *testing.T) {
	sameBlocks(t, "nothing", impl.CutRecords(nil), impl.OK, nil)
	sameBlocks(t, "one head", impl.CutRecords([]byte{23, 3, 3, 0, 0}), impl.OK, [][]byte{{23, 3, 3, 0, 0}})
	// What stands ahead of the length is not asked here.
	sameBlocks(t, "other heads", impl.CutRecords([]byte{1, 2, 3, 0, 1, 9, 255, 0, 7, 0, 0}), impl.OK, [][]byte{{1, 2, 3, 0, 1, 9}, {255, 0, 7, 0, 0}})
	sameBlocks(t, "the last one is cut", impl.CutRecords([]byte{23, 3, 3, 0, 1, 9, 23, 3, 3, 0, 1}), impl.ErrText, nil)
	sameBlocks(t, "the last head is cut", impl.CutRecords([]byte{23, 3, 3, 0, 1, 9, 23, 3, 3, 0}), impl.ErrText, nil)
	sameBlocks(t, "a length of 241", impl.CutRecords(append(headByHand(241), make([]byte, 241)...)), impl.ErrRange, nil)
	most := append(headByHand(240), make([]byte, 240)...)
	sameBlocks(t, "a length of 240", impl.CutRecords(most), impl.OK, [][]byte{most})
	sameBlocks(t, "two of 240", impl.CutRecords(slices.Concat(most, most)), impl.OK, [][]byte{most, most})
}

// piecesOf are heads of these lengths and as many bytes behind each.
func piecesOf(lengths ...int) [][]byte {
	var list [][]byte
	for i, n := range lengths {
		head := headByHand(n)
		head[0] += byte(i)
		list = append(list, append(head, someBytes(n)...))
	}
	return list
}

// lengthsOfPieces are inside the bounds and outside them; some come to 600
// bytes, or to a byte more or less.
func lengthsOfPieces() [][]int {
	return [][]int{
		nil, {0}, {1}, {16}, {239}, {240}, {241}, {0, 0}, {0, 240}, {240, 0}, {240, 240}, {0, 241}, {241, 0}, {240, 241}, {1, 2, 3},
		{240, 240, 104}, {240, 240, 105}, {240, 240, 106}, {105, 240, 240}, {240, 240, 99, 0}, {240, 240, 100, 0}, {240, 240, 101, 0},
		repeated(0, 7), repeated(0, 8), repeated(0, 9), repeated(0, 10), repeated(0, 120), repeated(0, 121), repeated(70, 8), append(repeated(70, 7), 69), append(repeated(70, 7), 71), repeated(61, 9),
		append(repeated(0, 8), 1), append(repeated(0, 8), 240), append(repeated(0, 8), 241), append(repeated(0, 7), 241), {256}, {257}, {595}, {596}, {512, 0}, {65535},
	}
}

func TestCutRecords(t *testing.T) {
	for _, lengths := range lengthsOfPieces() {
		list := piecesOf(lengths...)
		data := slices.Concat(list...)
		want := cutByHand(data)
		if want.Code == impl.OK && len(want.Blocks) != len(list) {
			t.Fatalf("pieces of %v are cut by hand into %d", lengths, len(want.Blocks))
		}
		sameBlocks(t, "CutRecords", impl.CutRecords(data), want.Code, want.Blocks)
		for n := range min(len(data), 700) {
			want := cutByHand(data[:n])
			sameBlocks(t, "CutRecords of a beginning", impl.CutRecords(data[:n]), want.Code, want.Blocks)
			want = cutByHand(data[n:])
			sameBlocks(t, "CutRecords of an end", impl.CutRecords(data[n:]), want.Code, want.Blocks)
		}
	}
}

func TestCutRecordsOfFewBytes(t *testing.T) {
	// All data of 0 to 13 bytes that are made of two of them, and of 0 to 6 of more.
	for _, few := range []struct {
		among []byte
		most  int
	}{{[]byte{0, 1}, 13}, {[]byte{0, 1, 5, 240, 241, 255}, 6}} {
		visitAll(few.among, few.most, func(data []byte) {
			want := cutByHand(data)
			sameBlocks(t, "CutRecords", impl.CutRecords(data), want.Code, want.Blocks)
		})
	}
}

func TestCutRecordsLengthsThatAreTold(t *testing.T) {
	for high := range 256 {
		for low := range 256 {
			told := high*256 + low
			data := []byte{23, 3, 3, byte(high), byte(low)}
			code := firstCode(whenRange(told > 240), whenText(told > 0))
			var want [][]byte
			if code == impl.OK {
				want = [][]byte{data}
			}
			sameBlocks(t, "a head alone", impl.CutRecords(data), code, want)
		}
	}
	for told := range 300 {
		for _, there := range []int{told - 1, told, told + 1, told + 4} {
			data := append(headByHand(told), make([]byte, max(there, 0))...)
			want := cutByHand(data)
			sameBlocks(t, "a head and what is behind it", impl.CutRecords(data), want.Code, want.Blocks)
		}
	}
}

func TestCutCodesInOrder(t *testing.T) {
	refuse := func(name string, code int64, pieces ...[]byte) {
		t.Helper()
		sameBlocks(t, name, impl.CutRecords(slices.Concat(pieces...)), code, nil)
	}
	eight := slices.Concat(piecesOf(repeated(1, 8)...)...)
	sameBlocks(t, "eight records", impl.CutRecords(eight), impl.OK, piecesOf(repeated(1, 8)...))
	refuse("nine records", impl.ErrMany, eight, headByHand(0))
	refuse("nine records, and more", impl.ErrMany, eight, headByHand(0), []byte{1})
	refuse("a ninth that is long", impl.ErrMany, eight, headByHand(240), make([]byte, 240))
	// That eight are ahead is asked behind all else.
	refuse("a ninth whose head is cut", impl.ErrText, eight, []byte{1, 2, 3, 4})
	refuse("a ninth that tells too much", impl.ErrRange, eight, headByHand(241), make([]byte, 241))
	refuse("a ninth that tells too much, and is cut", impl.ErrRange, eight, headByHand(241))
	refuse("a ninth that is cut", impl.ErrText, eight, headByHand(2), []byte{1})
	// Piece by piece: the first one that is wrong tells its code.
	refuse("too much is told ahead of what is cut", impl.ErrRange, headByHand(241), []byte{1})
	refuse("what is cut, though too much is told in it", impl.ErrText, headByHand(9), headByHand(241))
	refuse("too much is told behind a good one", impl.ErrRange, headByHand(0), headByHand(256), make([]byte, 256))
	// Data that are too long are told ahead of all pieces.
	for _, n := range []int{601, 602, 605, 1000, 65536} {
		refuse("too much data", impl.ErrMany, make([]byte, n))
		refuse("too much data that tell too much", impl.ErrMany, bytes.Repeat([]byte{255}, n))
	}
	refuse("600 bytes of zeros", impl.ErrMany, make([]byte, 600))
	refuse("600 bytes that tell too much", impl.ErrRange, bytes.Repeat([]byte{255}, 600))
	refuse("fewer than five", impl.ErrText, bytes.Repeat([]byte{255}, 4))
}

// end is one of two that hold the same stream: what it sends or hears moves it.
type end struct {
	t      *testing.T
	stream impl.Stream
}

func (e *end) send(kind int64, plain []byte, pad int64) []byte {
	e.t.Helper()
	sent := impl.SendRecord(e.stream, kind, plain, pad)
	if sent.Code != impl.OK || sent.Kind != kind {
		e.t.Fatalf("SendRecord of kind %d, %d bytes, %d zeros by %+v: %+v", kind, len(plain), pad, e.stream, sent)
	}
	sameRecord(e.t, "the stream behind what is sent", impl.RecordResult{Stream: sent.Stream}, impl.RecordResult{Stream: oneOn(e.stream)})
	e.stream = sent.Stream
	return sent.Bytes
}

func (e *end) hear(record []byte, kind int64, plain []byte) {
	e.t.Helper()
	heard := impl.HearRecord(e.stream, record)
	sameRecord(e.t, "what is heard", heard, impl.RecordResult{Kind: kind, Bytes: plain, Stream: oneOn(e.stream)})
	if heard.Code != impl.OK {
		e.t.FailNow()
	}
	e.stream = heard.Stream
}

func (e *end) update() {
	e.t.Helper()
	next := impl.UpdateStream(e.stream)
	sameRecord(e.t, "UpdateStream", next, impl.RecordResult{Stream: updateByHand(e.t, e.stream)})
	e.stream = next.Stream
}

// twoEnds hold one stream, in memory of their own.
func twoEnds(t *testing.T, x impl.Stream) (*end, *end) {
	return &end{t, impl.Stream{Secret: bytes.Clone(x.Secret), Seq: x.Seq, Epoch: x.Epoch}}, &end{t, impl.Stream{Secret: bytes.Clone(x.Secret), Seq: x.Seq, Epoch: x.Epoch}}
}

func sameEnds(t *testing.T, a *end, b *end) {
	t.Helper()
	if !alikeStreams(a.stream, b.stream) || impl.StreamFault(a.stream) != impl.OK {
		t.Errorf("the streams are %+v and %+v", a.stream, b.stream)
	}
}

func TestP10SentIsHeard(t *testing.T) {
	for _, x := range goodStreams() {
		for _, kind := range []int64{21, 22, 23} {
			for pad := range int64(17) {
				for _, plain := range goodPlains() {
					from, to := twoEnds(t, x)
					record := from.send(kind, plain, pad)
					if len(record) != 5+len(plain)+1+int(pad)+16 {
						t.Errorf("a record of %d bytes and %d zeros has %d", len(plain), pad, len(record))
					}
					to.hear(record, kind, plain)
					sameEnds(t, from, to)
				}
			}
		}
	}
}

func TestP10SentOfEachLengthIsHeard(t *testing.T) {
	for n := range 201 {
		for tail := range min(n, 20) + 1 {
			// The last bytes are zeros: they are plain, not what is put behind.
			plain := append(someBytes(n-tail), make([]byte, tail)...)
			from, to := twoEnds(t, streamOf(int64(n%200), int64(n%100)))
			to.hear(from.send(21+int64(tail%3), plain, int64(tail%17)), 21+int64(tail%3), plain)
			sameEnds(t, from, to)
		}
	}
}

func TestP10RecordByRecordToTheEnd(t *testing.T) {
	from, to := twoEnds(t, streamOf(0, 0))
	seen := map[string]bool{}
	for i := range 200 {
		kind := 21 + int64(i%3)
		// The same plain bytes again and again: each record is another one.
		record := from.send(kind, []byte{7, 0}, 4)
		if seen[string(record)] {
			t.Fatalf("record %d was sent already", i)
		}
		seen[string(record)] = true
		to.hear(record, kind, []byte{7, 0})
		sameEnds(t, from, to)
	}
	refused(t, "a record behind the last one", impl.SendRecord(from.stream, 23, nil, 0), impl.ErrLimit)
	refused(t, "a record behind the last one, heard", impl.HearRecord(to.stream, recordByHand(t, to.stream, 23, nil, 0)), impl.ErrLimit)
	// New keys are the way on.
	from.update()
	to.update()
	sameEnds(t, from, to)
	to.hear(from.send(22, someBytes(200), 16), 22, someBytes(200))
	sameEnds(t, from, to)
}

func TestP10ThroughAllEpochs(t *testing.T) {
	from, to := twoEnds(t, impl.Stream{Secret: rising(32)})
	seen := map[string]bool{string(from.stream.Secret): true}
	for epoch := range int64(100) {
		for i := range 3 {
			plain := append(someBytes(int(epoch)), make([]byte, i)...)
			to.hear(from.send(21+int64(i), plain, epoch%17), 21+int64(i), plain)
		}
		sameEnds(t, from, to)
		if from.stream.Epoch != epoch || from.stream.Seq != 3 {
			t.Fatalf("at epoch %d the stream is %+v", epoch, from.stream)
		}
		if epoch == 99 {
			break
		}
		from.update()
		to.update()
		sameEnds(t, from, to)
		if seen[string(from.stream.Secret)] {
			t.Fatalf("the secret of epoch %d was there already", epoch+1)
		}
		seen[string(from.stream.Secret)] = true
	}
	refused(t, "new keys behind the last ones", impl.UpdateStream(from.stream), impl.ErrLimit)
}

// sentPiece is what was sent, to be held against what is heard.
type sentPiece struct {
	kind  int64
	plain []byte
}

func TestP10PieceByPiece(t *testing.T) {
	for _, lengths := range [][]int{{0}, {200}, {1, 2}, {200, 200, 80}, repeated(3, 8), {0, 5, 0, 90, 17, 1}} {
		for _, pad := range []int64{0, 1, 16} {
			from, to := twoEnds(t, streamOf(5, 2))
			var data []byte
			var sent []sentPiece
			for i, n := range lengths {
				p := sentPiece{21 + int64(i%3), someBytes(n)}
				data = append(data, from.send(p.kind, p.plain, pad)...)
				sent = append(sent, p)
			}
			cut := impl.CutRecords(data)
			if cut.Code != impl.OK || len(cut.Blocks) != len(sent) {
				t.Fatalf("records of %v are cut into %+v", lengths, cut)
			}
			for i, record := range cut.Blocks {
				to.hear(record, sent[i].kind, sent[i].plain)
			}
			sameEnds(t, from, to)
		}
	}
}

func TestP10PieceByPieceThroughNewKeys(t *testing.T) {
	// Two ends know where new keys begin: here behind each other record.
	from, to := twoEnds(t, streamOf(198, 90))
	var data []byte
	for i := range 8 {
		data = append(data, from.send(23, someBytes(i), int64(i))...)
		if i%2 == 1 {
			from.update()
		}
	}
	cut := impl.CutRecords(data)
	if cut.Code != impl.OK || len(cut.Blocks) != 8 {
		t.Fatalf("%+v", cut)
	}
	for i, record := range cut.Blocks {
		to.hear(record, 23, someBytes(i))
		if i%2 == 1 {
			to.update()
		}
	}
	sameEnds(t, from, to)
	if to.stream.Epoch != 94 || to.stream.Seq != 0 {
		t.Errorf("the stream is %+v", to.stream)
	}
}

func TestP10HeardInOrderAlone(t *testing.T) {
	from, _ := twoEnds(t, streamOf(0, 0))
	var records [][]byte
	for i := range 6 {
		records = append(records, from.send(23, someBytes(i), 0))
	}
	for i, record := range records {
		for seq := range int64(200) {
			x := streamOf(seq, 0)
			if seq == int64(i) {
				sameRecord(t, "a record at its place", impl.HearRecord(x, record), impl.RecordResult{Kind: 23, Bytes: someBytes(i), Stream: oneOn(x)})
			} else {
				refused(t, "a record at another place", impl.HearRecord(x, record), impl.ErrSign)
			}
		}
		for bit := range 256 {
			x := impl.Stream{Secret: changed(someBytes(32), bit), Seq: int64(i)}
			refused(t, "a record by another secret", impl.HearRecord(x, record), impl.ErrSign)
		}
		next := impl.UpdateStream(streamOf(int64(i), 0)).Stream
		next.Seq = int64(i)
		refused(t, "a record by the next keys", impl.HearRecord(next, record), impl.ErrSign)
	}
}

func TestP10ToldBySealing(t *testing.T) {
	for _, x := range goodStreams() {
		for _, plain := range goodPlains() {
			keys := impl.KeysOf(x.Secret)
			nonce := impl.NonceFor(keys.Base, x.Seq).Bytes
			content := contentByHand(22, plain, 7)
			head := headByHand(len(content) + impl.TagBytes)
			sealed := impl.SealBytes(keys.Key, nonce, head, content).Bytes
			sameRecord(t, "SendRecord by SealBytes", impl.SendRecord(x, 22, plain, 7), impl.RecordResult{Kind: 22, Bytes: slices.Concat(head, sealed), Stream: oneOn(x)})
		}
	}
}

func TestP1RecordArgumentsStay(t *testing.T) {
	for _, n := range []int{0, 31, 32, 33} {
		for _, seq := range []int64{-1, 0, 199, 200, 201} {
			for _, m := range []int{0, 1, 5, 200, 201, 600, 601} {
				secret, data := roomyFor(someBytes(n)), roomyFor(someBytes(m))
				x := impl.Stream{Secret: secret, Seq: seq, Epoch: 98}
				impl.StreamFault(x)
				impl.KeysOf(secret)
				impl.SendRecord(x, 23, data, 16)
				impl.SendRecord(x, 24, data, 17)
				impl.HearRecord(x, data)
				impl.UpdateStream(x)
				impl.CutRecords(data)
				if !stays(secret, someBytes(n)) || !stays(data, someBytes(m)) {
					t.Errorf("an argument of %d and %d bytes is changed", n, m)
				}
			}
		}
	}
	// What is heard and what is cut as well, not only what is refused.
	for _, content := range [][]byte{contentByHand(23, someBytes(9), 5), contentByHand(23, someBytes(200), 0), contentByHand(9, nil, 0), make([]byte, 30), nil} {
		x := impl.Stream{Secret: roomyFor(someBytes(32)), Seq: 4}
		was := sealedRecord(t, x, content)
		record, twice := roomyFor(was), roomyFor(slices.Concat(was, was))
		impl.HearRecord(x, record)
		impl.CutRecords(twice)
		if !stays(record, was) || !stays(twice, slices.Concat(was, was)) || !stays(x.Secret, someBytes(32)) {
			t.Errorf("a record of %d bytes, or the secret, is changed", len(was))
		}
	}
}

// recordAsks are the functions of the chapter that answer a stream, of one and
// of bytes that suit them.
func recordAsks() map[string]func(x impl.Stream, data []byte) impl.RecordResult {
	return map[string]func(x impl.Stream, data []byte) impl.RecordResult{
		"SendRecord": func(x impl.Stream, data []byte) impl.RecordResult {
			return impl.SendRecord(x, 22, data, 3)
		},
		"HearRecord": impl.HearRecord,
		"UpdateStream": func(x impl.Stream, data []byte) impl.RecordResult {
			return impl.UpdateStream(x)
		},
	}
}

func cloneRecord(r impl.RecordResult) impl.RecordResult {
	r.Bytes, r.Stream.Secret = bytes.Clone(r.Bytes), bytes.Clone(r.Stream.Secret)
	return r
}

func TestP1RecordAnswersAreNewMemory(t *testing.T) {
	for name, ask := range recordAsks() {
		for _, n := range []int{0, 1, 64, 150} {
			was := recordByHand(t, streamOf(6, 7), 21, someBytes(n), 9)
			x, data := streamOf(6, 7), bytes.Clone(was)
			want := cloneRecord(ask(x, data))
			if want.Code != impl.OK {
				t.Fatalf("%s: %+v", name, want)
			}
			for _, first := range []bool{true, false} {
				got, second := ask(x, data), ask(x, data)
				left := cloneRecord(want)
				// One of the two lists is changed, to the end of its room: the other one stays.
				if first {
					spoil(got.Bytes)
					spoil(left.Bytes)
				} else {
					spoil(got.Stream.Secret)
					spoil(left.Stream.Secret)
				}
				sameRecord(t, name+" of which one list is changed", got, left)
				sameRecord(t, name+" told ahead", second, want)
				sameRecord(t, name+" told behind", ask(x, data), want)
				sameList(t, "its secret", impl.BytesResult{Bytes: x.Secret}, impl.OK, someBytes(32))
				sameList(t, "its data", impl.BytesResult{Bytes: data}, impl.OK, was)
			}
			told := ask(x, data)
			spoil(x.Secret)
			spoil(data)
			sameRecord(t, name+" of what is changed behind it", told, want)
		}
	}
}

func TestP1KeysAreNewMemory(t *testing.T) {
	secret := rising(32)
	key, base := keysOfRecordByHand(t, secret)
	first, second := impl.KeysOf(secret), impl.KeysOf(secret)
	spoil(first.Key)
	sameKeys(t, "a base beside a key that is changed", impl.KeysResult{Base: first.Base}, impl.OK, nil, base)
	third := impl.KeysOf(secret)
	spoil(third.Base)
	sameKeys(t, "a key beside a base that is changed", impl.KeysResult{Key: third.Key}, impl.OK, key, nil)
	sameList(t, "their secret", impl.BytesResult{Bytes: secret}, impl.OK, rising(32))
	spoil(secret)
	sameKeys(t, "KeysOf what is changed behind it", second, impl.OK, key, base)
	sameKeys(t, "KeysOf told behind", impl.KeysOf(rising(32)), impl.OK, key, base)
}

func TestP1RecordsCutAreNewMemory(t *testing.T) {
	for _, lengths := range [][]int{{0}, {1}, {240}, {2, 0, 3}, {240, 240, 105}, repeated(70, 8), repeated(0, 8)} {
		want := piecesOf(lengths...)
		was := slices.Concat(want...)
		data := roomyFor(was)
		second := impl.CutRecords(data)
		for i := range want {
			first := impl.CutRecords(data)
			// Each record has memory of its own, to the end of its room.
			spoil(first.Blocks[i])
			_ = append(first.Blocks[i], bytes.Repeat([]byte{0x5a}, 100)...)
			sameBlocks(t, "records ahead of one that is changed", impl.BlocksResult{Blocks: first.Blocks[:i]}, impl.OK, want[:i])
			sameBlocks(t, "records behind one that is changed", impl.BlocksResult{Blocks: first.Blocks[i+1:]}, impl.OK, want[i+1:])
		}
		if !stays(data, was) {
			t.Errorf("records of %v share memory with the data", lengths)
		}
		sameBlocks(t, "CutRecords told ahead", second, impl.OK, want)
		sameBlocks(t, "CutRecords told behind", impl.CutRecords(data), impl.OK, want)
		spoil(data)
		sameBlocks(t, "CutRecords of what is changed behind it", second, impl.OK, want)
	}
}

func TestP1RecordsOfOneMemory(t *testing.T) {
	// The secret and what is sent, or heard, may lie in one memory.
	whole := someBytes(40)
	x := impl.Stream{Secret: whole[:32]}
	want := sentByHand(t, impl.Stream{Secret: someBytes(40)[:32]}, 23, someBytes(40), 2)
	sameRecord(t, "SendRecord of one memory", impl.SendRecord(x, 23, whole, 2), want)
	whole = append(bytes.Clone(whole), want.Bytes...)
	was := bytes.Clone(whole)
	x = impl.Stream{Secret: whole[:32]}
	sameRecord(t, "HearRecord of one memory", impl.HearRecord(x, whole[40:]), impl.RecordResult{Kind: 23, Bytes: someBytes(40), Stream: oneOn(x)})
	sameList(t, "that memory", impl.BytesResult{Bytes: whole}, impl.OK, was)
}

func TestP1RecordsHangOnArgumentsAlone(t *testing.T) {
	x := streamOf(3, 4)
	sent := sentByHand(t, x, 22, someBytes(50), 6)
	cut := [][]byte{bytes.Clone(sent.Bytes), headByHand(0)}
	key, base := keysOfRecordByHand(t, x.Secret)
	ask := func() {
		t.Helper()
		if impl.StreamFault(x) != impl.OK {
			t.Error("StreamFault")
		}
		sameKeys(t, "KeysOf", impl.KeysOf(x.Secret), impl.OK, key, base)
		sameRecord(t, "SendRecord", impl.SendRecord(x, 22, someBytes(50), 6), sent)
		sameRecord(t, "HearRecord", impl.HearRecord(x, sent.Bytes), impl.RecordResult{Kind: 22, Bytes: someBytes(50), Stream: oneOn(x)})
		sameRecord(t, "UpdateStream", impl.UpdateStream(x), impl.RecordResult{Stream: updateByHand(t, x)})
		sameBlocks(t, "CutRecords", impl.CutRecords(slices.Concat(cut...)), impl.OK, cut)
	}
	ask()
	for _, other := range append(goodStreams(), streamOf(3, 4), streamOf(200, 99), impl.Stream{}) {
		impl.SendRecord(other, 23, someBytes(200), 16)
		impl.SendRecord(other, 20, someBytes(201), -1)
		impl.HearRecord(other, sent.Bytes)
		impl.HearRecord(other, changed(sent.Bytes, 100))
		impl.UpdateStream(other)
		impl.KeysOf(other.Secret)
		impl.CutRecords(make([]byte, 600))
		impl.CutRecords(make([]byte, 601))
		ask()
	}
}

func TestP1RecordsOfNothing(t *testing.T) {
	// Nothing, be it nil or empty, is one value.
	for _, none := range [][]byte{nil, {}} {
		x := impl.Stream{Secret: none}
		if impl.StreamFault(x) != impl.ErrForm {
			t.Error("a stream without a secret has no fault")
		}
		sameKeys(t, "KeysOf nothing", impl.KeysOf(none), impl.ErrForm, nil, nil)
		refused(t, "SendRecord without a secret", impl.SendRecord(x, 23, nil, 0), impl.ErrForm)
		refused(t, "HearRecord without a secret", impl.HearRecord(x, nil), impl.ErrForm)
		refused(t, "UpdateStream without a secret", impl.UpdateStream(x), impl.ErrForm)
		refused(t, "HearRecord of nothing", impl.HearRecord(streamOf(0, 0), none), impl.ErrText)
		sameBlocks(t, "CutRecords of nothing", impl.CutRecords(none), impl.OK, nil)
		sent := impl.SendRecord(streamOf(0, 0), 21, none, 0)
		sameRecord(t, "SendRecord of nothing", sent, sentByHand(t, streamOf(0, 0), 21, nil, 0))
		sameRecord(t, "nothing, heard", impl.HearRecord(streamOf(0, 0), sent.Bytes), impl.RecordResult{Kind: 21, Stream: oneOn(streamOf(0, 0))})
	}
}
