package tests

import (
	"bytes"
	"encoding/binary"
	"math"
	"slices"
	"testing"

	"loop.example/g00375/impl"
)

// msgByHand and the like are what the program's answers are held against.
func msgByHand(m impl.Msg) []byte {
	// The library tells the length in four bytes, of which the first is free.
	head := binary.BigEndian.AppendUint32(nil, uint32(len(m.Body)))
	head[0] = byte(m.Kind)
	return append(head, m.Body...)
}

func msgsByHand(list []impl.Msg) []byte {
	var data []byte
	for _, m := range list {
		data = append(data, msgByHand(m)...)
	}
	return data
}

func blocksByHand(list [][]byte) []byte {
	var data []byte
	for _, b := range list {
		data = append(data, byte(len(b)))
		data = append(data, b...)
	}
	return data
}

func faultByHand(m impl.Msg) int64 {
	return firstCode(whenRange(m.Kind < 0 || m.Kind > 255), whenAbove(len(m.Body), 160))
}

func codeOfMsgs(list []impl.Msg) int64 {
	codes := []int64{whenAbove(len(list), 12)}
	length := 0
	for _, m := range list {
		codes = append(codes, faultByHand(m))
		length += 4 + len(m.Body)
	}
	return firstCode(append(codes, whenAbove(length, 600))...)
}

func codeOfBlocks(list [][]byte) int64 {
	codes := []int64{whenAbove(len(list), 8)}
	length := 0
	for _, b := range list {
		codes = append(codes, whenAbove(len(b), 120))
		length += 1 + len(b)
	}
	return firstCode(append(codes, whenAbove(length, 160))...)
}

// unpackByHand goes on by what is left, not by places.
func unpackByHand(data []byte) impl.MsgsResult {
	if len(data) > 600 {
		return impl.MsgsResult{Code: impl.ErrMany}
	}
	var list []impl.Msg
	for rest := data; len(rest) > 0; {
		code, length := int64(impl.OK), 0
		if len(rest) < 4 {
			code = impl.ErrText
		} else {
			length = int(rest[1])*65536 + int(rest[2])*256 + int(rest[3])
			code = firstCode(whenAbove(length, 160), whenAbove(len(list)+1, 12), whenText(len(rest) < 4+length))
		}
		if code != impl.OK {
			return impl.MsgsResult{Code: code, At: int64(len(data) - len(rest))}
		}
		list = append(list, impl.Msg{Kind: int64(rest[0]), Body: bytes.Clone(rest[4 : 4+length])})
		rest = rest[4+length:]
	}
	return impl.MsgsResult{Msgs: list}
}

func unpackBlocksByHand(data []byte) impl.BlocksResult {
	if len(data) > 160 {
		return impl.BlocksResult{Code: impl.ErrMany}
	}
	var list [][]byte
	for rest := data; len(rest) > 0; {
		length := int(rest[0])
		if length > 120 || len(rest) < 1+length || len(list) == 8 {
			return impl.BlocksResult{Code: impl.ErrText}
		}
		list = append(list, bytes.Clone(rest[1:1+length]))
		rest = rest[1+length:]
	}
	return impl.BlocksResult{Blocks: list}
}

// alikeMsgs compares without the program's SameMsgs.
func alikeMsgs(a []impl.Msg, b []impl.Msg) bool {
	if len(a) != len(b) {
		return false
	}
	for i := range a {
		if a[i].Kind != b[i].Kind || string(a[i].Body) != string(b[i].Body) {
			return false
		}
	}
	return true
}

func sameMsgsResult(t *testing.T, name string, got impl.MsgsResult, want impl.MsgsResult) {
	t.Helper()
	if got.Code != want.Code || got.At != want.At || !alikeMsgs(got.Msgs, want.Msgs) {
		t.Errorf("%s: %+v, want %+v", name, got, want)
	}
}

func sameBlocks(t *testing.T, name string, got impl.BlocksResult, code int64, blocks [][]byte) {
	t.Helper()
	if got.Code != code || !slices.EqualFunc(got.Blocks, blocks, bytes.Equal) {
		t.Errorf("%s: %+v, want code %d, blocks %v", name, got, code, blocks)
	}
}

func cloneMsgs(list []impl.Msg) []impl.Msg {
	var out []impl.Msg
	for _, m := range list {
		out = append(out, impl.Msg{Kind: m.Kind, Body: bytes.Clone(m.Body)})
	}
	return out
}

func cloneBlocks(list [][]byte) [][]byte {
	var out [][]byte
	for _, b := range list {
		out = append(out, bytes.Clone(b))
	}
	return out
}

// kindsOfMsg has numbers that would be kinds if their higher bits were dropped.
func kindsOfMsg() []int64 {
	return []int64{-1, 0, 1, 2, 20, 127, 128, 254, 255, 256, 257, 511, 512, 65536, 1 << 32, 1<<32 + 5, 1 << 62, -2, -255, -256, math.MinInt64, math.MinInt64 + 7, math.MaxInt64}
}

// bodiesOfMsg has lengths whose lowest byte, or two, would be inside the bounds.
func bodiesOfMsg() [][]byte {
	return append(lists(0, 1, 2, 3, 4, 159, 160, 161, 162, 255, 256, 257, 416, 417, 600, 601, 65536, 65537, 65696, 1<<24, 1<<24+1), nil, make([]byte, 160), make([]byte, 161))
}

// msgsOf are messages with bodies of these lengths, and kinds that differ.
func msgsOf(lengths ...int) []impl.Msg {
	var list []impl.Msg
	for i, n := range lengths {
		list = append(list, impl.Msg{Kind: int64((i*37 + n) % 256), Body: someBytes(n)})
	}
	return list
}

// repeated is one length, told count times.
func repeated(length int, count int) []int {
	return slices.Repeat([]int{length}, count)
}

// lengthsOfMsgs are lists inside the bounds and outside them; some come to
// 600 bytes, or to a byte more or less.
func lengthsOfMsgs() [][]int {
	return [][]int{
		nil, {0}, {1}, {159}, {160}, {161}, {0, 0}, {2, 0}, {0, 2}, {160, 0, 160}, {160, 160, 160}, {160, 160, 161}, {161, 0, 0},
		{160, 160, 160, 103}, {160, 160, 160, 104}, {160, 160, 160, 105}, {104, 160, 160, 160}, {105, 160, 160, 160}, {160, 160, 160, 160},
		{160, 160, 160, 100, 0}, {160, 160, 160, 101, 0}, {160, 160, 160, 99, 0},
		repeated(0, 11), repeated(0, 12), repeated(0, 13), repeated(0, 14), repeated(0, 100),
		repeated(46, 11), repeated(46, 12), repeated(46, 13), append(repeated(46, 11), 45), append(repeated(46, 11), 47), append([]int{47}, repeated(46, 11)...), repeated(47, 12), repeated(160, 12), repeated(160, 13), repeated(161, 12), repeated(161, 13),
	}
}

func TestWireConstants(t *testing.T) {
	if impl.MaxMsgs != 12 || impl.MaxBody != 160 {
		t.Error(impl.MaxMsgs, impl.MaxBody)
	}
}

func TestWireKnown(t *testing.T) {
	list := []impl.Msg{{Kind: 1, Body: []byte{7, 8}}, {Kind: 255, Body: nil}, {Kind: 0, Body: []byte{0}}}
	data := hexed(t, "010000020708"+"ff000000"+"0000000100")
	sameList(t, "PackMsgs", impl.PackMsgs(list), impl.OK, data)
	sameMsgsResult(t, "UnpackMsgs", impl.UnpackMsgs(data), impl.MsgsResult{Msgs: list})
	sameList(t, "PackMsg", impl.PackMsg(list[0]), impl.OK, data[:6])
	long := impl.PackMsg(impl.Msg{Kind: 22, Body: someBytes(160)})
	if long.Code != impl.OK || len(long.Bytes) != 164 || !bytes.Equal(long.Bytes[:4], []byte{22, 0, 0, 160}) {
		t.Errorf("PackMsg of 160 bytes: %+v", long)
	}
	blocks := [][]byte{{1}, {}, {2, 3}}
	sameList(t, "PackBlocks", impl.PackBlocks(blocks), impl.OK, hexed(t, "010100020203"))
	sameBlocks(t, "UnpackBlocks", impl.UnpackBlocks(hexed(t, "010100020203")), impl.OK, blocks)
	most := impl.PackBlocks([][]byte{someBytes(120)})
	if most.Code != impl.OK || len(most.Bytes) != 121 || most.Bytes[0] != 120 {
		t.Errorf("PackBlocks of 120 bytes: %+v", most)
	}
}

func TestMsgFaultAndPackMsg(t *testing.T) {
	for _, kind := range kindsOfMsg() {
		for _, body := range bodiesOfMsg() {
			m := impl.Msg{Kind: kind, Body: body}
			code := faultByHand(m)
			if got := impl.MsgFault(m); got != code {
				t.Errorf("MsgFault of kind %d and %d bytes is %d, want %d", kind, len(body), got, code)
			}
			var want []byte
			if code == impl.OK {
				want = msgByHand(m)
			}
			sameList(t, "PackMsg", impl.PackMsg(m), code, want)
			sameList(t, "PackMsgs of one", impl.PackMsgs([]impl.Msg{m}), code, want)
		}
	}
}

func TestPackMsgs(t *testing.T) {
	for _, lengths := range lengthsOfMsgs() {
		list := msgsOf(lengths...)
		code := codeOfMsgs(list)
		var want []byte
		if code == impl.OK {
			want = msgsByHand(list)
		}
		sameList(t, "PackMsgs", impl.PackMsgs(list), code, want)
	}
}

func TestPackMsgsToEachLength(t *testing.T) {
	// Messages that come to each number of bytes from 4 to 620.
	for n := 4; n <= 620; n++ {
		var lengths []int
		for left := n; left > 0; {
			next := min(left, 164)
			// A message has at least four bytes: what is left must not be fewer.
			if left-next > 0 && left-next < 4 {
				next -= 4
			}
			lengths = append(lengths, next-4)
			left -= next
		}
		list := msgsOf(lengths...)
		want := msgsByHand(list)
		if len(want) != n {
			t.Fatalf("%d bytes are wanted, these are %d", n, len(want))
		}
		code := whenAbove(n, 600)
		if code != impl.OK {
			want = nil
		}
		sameList(t, "PackMsgs", impl.PackMsgs(list), code, want)
	}
}

// withKind and withBody put a fault into a list, or mend one.
func withKind(list []impl.Msg, at int, kind int64) []impl.Msg {
	other := cloneMsgs(list)
	other[at].Kind = kind
	return other
}

func withBody(list []impl.Msg, at int, n int) []impl.Msg {
	other := cloneMsgs(list)
	other[at].Body = someBytes(n)
	return other
}

func TestPackMsgsCodesInOrder(t *testing.T) {
	refuse := func(name string, list []impl.Msg, code int64) {
		t.Helper()
		sameList(t, name, impl.PackMsgs(list), code, nil)
	}
	good := msgsOf(repeated(3, 12)...)
	long := msgsOf(repeated(160, 12)...)
	for i := range 12 {
		for _, kind := range []int64{-1, 256, math.MinInt64, math.MaxInt64} {
			refuse("a kind wrong", withKind(good, i, kind), impl.ErrRange)
			refuse("a kind wrong, and the whole too long", withKind(long, i, kind), impl.ErrRange)
			refuse("a kind wrong, and its body too long", withKind(withBody(good, i, 161), i, kind), impl.ErrRange)
			refuse("a kind wrong, and too many", withKind(msgsOf(repeated(0, 13)...), i, kind), impl.ErrMany)
		}
		refuse("a body too long", withBody(good, i, 161), impl.ErrMany)
		for j := range 12 {
			both := withKind(withBody(good, i, 161), j, 256)
			// The first one that has a fault tells it; one message tells its kind first.
			if i < j {
				refuse("a body too long ahead of a kind", both, impl.ErrMany)
			} else {
				refuse("a kind wrong ahead of a body", both, impl.ErrRange)
			}
		}
	}
	refuse("the thirteenth has a kind that is wrong", withKind(msgsOf(repeated(0, 13)...), 12, -1), impl.ErrMany)
	refuse("all are wrong, and too many", slices.Repeat([]impl.Msg{{Kind: -1, Body: someBytes(161)}}, 13), impl.ErrMany)
	refuse("all are wrong", slices.Repeat([]impl.Msg{{Kind: -1, Body: someBytes(161)}}, 12), impl.ErrRange)
}

func TestUnpackMsgsOfFewBytes(t *testing.T) {
	// All data of 0 to 9 bytes that are made of three of them.
	visitAll([]byte{0, 1, 161}, 9, func(data []byte) {
		sameMsgsResult(t, "UnpackMsgs", impl.UnpackMsgs(data), unpackByHand(data))
	})
	visitAll([]byte{0, 1, 2, 4, 160, 161, 255}, 5, func(data []byte) {
		sameMsgsResult(t, "UnpackMsgs", impl.UnpackMsgs(data), unpackByHand(data))
	})
	for n := 1; n <= 3; n++ {
		sameMsgsResult(t, "fewer than four bytes", impl.UnpackMsgs(make([]byte, n)), impl.MsgsResult{Code: impl.ErrText})
		sameMsgsResult(t, "fewer than four bytes", impl.UnpackMsgs(bytes.Repeat([]byte{255}, n)), impl.MsgsResult{Code: impl.ErrText})
	}
	sameMsgsResult(t, "four bytes", impl.UnpackMsgs([]byte{9, 0, 0, 0}), impl.MsgsResult{Msgs: []impl.Msg{{Kind: 9}}})
	sameMsgsResult(t, "five bytes", impl.UnpackMsgs([]byte{9, 0, 0, 1, 8}), impl.MsgsResult{Msgs: []impl.Msg{{Kind: 9, Body: []byte{8}}}})
	sameMsgsResult(t, "a byte is not there", impl.UnpackMsgs([]byte{9, 0, 0, 1}), impl.MsgsResult{Code: impl.ErrText})
	sameMsgsResult(t, "a byte is left", impl.UnpackMsgs([]byte{9, 0, 0, 0, 8}), impl.MsgsResult{Code: impl.ErrText, At: 4})
}

// visitAll goes through all data of 0 to most bytes that are among these.
func visitAll(among []byte, most int, visit func(data []byte)) {
	var grow func(data []byte)
	grow = func(data []byte) {
		visit(data)
		if len(data) == most {
			return
		}
		for _, b := range among {
			grow(append(bytes.Clone(data), b))
		}
	}
	grow(nil)
}

func TestUnpackMsgsCutAtEachByte(t *testing.T) {
	for _, lengths := range [][]int{{0}, {1}, {160}, {2, 0, 5}, {0, 0, 160}, {160, 160, 160, 104}, repeated(0, 12), repeated(46, 12)} {
		list := msgsOf(lengths...)
		data := msgsByHand(list)
		// starts has the place of each first byte, and the end.
		starts := []int{0}
		for _, n := range lengths {
			starts = append(starts, starts[len(starts)-1]+4+n)
		}
		for n := range len(data) + 1 {
			whole, exact := slices.BinarySearch(starts, n)
			want := impl.MsgsResult{Msgs: list[:min(whole, len(list))]}
			if !exact {
				want = impl.MsgsResult{Code: impl.ErrText, At: int64(starts[whole-1])}
			}
			sameMsgsResult(t, "UnpackMsgs of what is cut", impl.UnpackMsgs(data[:n]), want)
			sameMsgsResult(t, "UnpackMsgs of what is cut at its beginning", impl.UnpackMsgs(data[n:]), unpackByHand(data[n:]))
		}
	}
}

func TestUnpackMsgsLengthsThatAreTold(t *testing.T) {
	for high := range 256 {
		for _, middle := range []int{0, 1, 2, 128, 255} {
			for _, low := range []int{0, 1, 2, 159, 160, 161, 255} {
				for _, there := range []int{0, 1, 2, 159, 160, 161, 300} {
					for _, ahead := range []int{0, 1, 3} {
						data := msgsByHand(msgsOf(repeated(5, ahead)...))
						data = append(data, 7, byte(high), byte(middle), byte(low))
						data = append(data, make([]byte, there)...)
						sameMsgsResult(t, "UnpackMsgs", impl.UnpackMsgs(data), unpackByHand(data))
					}
				}
			}
		}
	}
	// Each of the three bytes tells: what the others leave would be there.
	body := make([]byte, 200)
	for b := 1; b < 256; b++ {
		for at := 1; at <= 2; at++ {
			head := []byte{7, 0, 0, 3}
			head[at] = byte(b)
			sameMsgsResult(t, "a higher byte of a length", impl.UnpackMsgs(slices.Concat(head, body[:3])), impl.MsgsResult{Code: impl.ErrMany})
		}
		want := impl.MsgsResult{Msgs: []impl.Msg{{Kind: 7, Body: body[:min(b, 200)]}}}
		if b > 160 {
			want = impl.MsgsResult{Code: impl.ErrMany}
		}
		sameMsgsResult(t, "the lowest byte of a length", impl.UnpackMsgs(slices.Concat([]byte{7, 0, 0, byte(b)}, body[:min(b, 200)])), want)
	}
}

func TestUnpackMsgsCodesInOrder(t *testing.T) {
	// A length above its bound is told ahead of the bytes that are not there.
	sameMsgsResult(t, "161 bytes are told, none is there", impl.UnpackMsgs([]byte{1, 0, 0, 161}), impl.MsgsResult{Code: impl.ErrMany})
	sameMsgsResult(t, "160 bytes are told, none is there", impl.UnpackMsgs([]byte{1, 0, 0, 160}), impl.MsgsResult{Code: impl.ErrText})
	// A head that is not whole is told ahead of there being too many.
	full := msgsByHand(msgsOf(repeated(1, 12)...))
	for left := 1; left <= 3; left++ {
		sameMsgsResult(t, "a head that is not whole behind twelve", impl.UnpackMsgs(slices.Concat(full, make([]byte, left))), impl.MsgsResult{Code: impl.ErrText, At: 60})
	}
	for _, more := range [][]byte{{0, 0, 0, 0}, {1, 0, 0, 1, 1}, {1, 0, 0, 161}, {1, 255, 255, 255}, {1, 0, 0, 160}, {1, 0, 0, 1}, make([]byte, 540)} {
		sameMsgsResult(t, "a thirteenth message", impl.UnpackMsgs(slices.Concat(full, more)), impl.MsgsResult{Code: impl.ErrMany, At: 60})
	}
	// Message by message: the first one that is wrong tells its code.
	sameMsgsResult(t, "too long a length ahead of what is left", impl.UnpackMsgs([]byte{1, 0, 0, 0, 1, 0, 1, 0, 1}), impl.MsgsResult{Code: impl.ErrMany, At: 4})
	sameMsgsResult(t, "what is not there, though it looks too long", impl.UnpackMsgs([]byte{1, 0, 0, 9, 1, 255, 255, 255}), impl.MsgsResult{Code: impl.ErrText})
	// Data that are too long have no message that is wrong, and no At.
	for _, n := range []int{601, 602, 604, 1000, 65536 + 4} {
		sameMsgsResult(t, "data too long", impl.UnpackMsgs(make([]byte, n)), impl.MsgsResult{Code: impl.ErrMany})
		sameMsgsResult(t, "data too long", impl.UnpackMsgs(bytes.Repeat([]byte{255}, n)), impl.MsgsResult{Code: impl.ErrMany})
	}
	tooLong := msgsByHand(msgsOf(160, 160, 160, 105))
	sameMsgsResult(t, "messages of 601 bytes", impl.UnpackMsgs(tooLong), impl.MsgsResult{Code: impl.ErrMany})
	sameMsgsResult(t, "600 bytes of them", impl.UnpackMsgs(tooLong[:600]), impl.MsgsResult{Code: impl.ErrText, At: 492})
	sameMsgsResult(t, "600 zeros", impl.UnpackMsgs(make([]byte, 600)), impl.MsgsResult{Code: impl.ErrMany, At: 48})
}

func TestUnpackMsgsWhatIsLeftBehind(t *testing.T) {
	for _, lengths := range [][]int{nil, {0}, {1}, {160}, {2, 0}, {160, 160}, repeated(3, 11), repeated(3, 12), repeated(46, 11), {160, 160, 160, 100}} {
		list := msgsOf(lengths...)
		data := msgsByHand(list)
		at := int64(len(data))
		for _, fill := range []byte{0, 1, 255} {
			for left := 1; left <= 3; left++ {
				more := slices.Concat(data, bytes.Repeat([]byte{fill}, left))
				sameMsgsResult(t, "bytes that are left", impl.UnpackMsgs(more), impl.MsgsResult{Code: impl.ErrText, At: at})
			}
		}
		code := firstCode(whenAbove(len(list)+1, 12), impl.ErrText)
		sameMsgsResult(t, "a message that is not whole", impl.UnpackMsgs(slices.Concat(data, []byte{1, 0, 0, 1})), impl.MsgsResult{Code: code, At: at})
		sameMsgsResult(t, "a message that is too long", impl.UnpackMsgs(slices.Concat(data, []byte{1, 0, 1, 0})), impl.MsgsResult{Code: impl.ErrMany, At: at})
	}
}

func TestP7MessagesAreReadBack(t *testing.T) {
	check := func(list []impl.Msg) {
		t.Helper()
		data := impl.PackMsgs(list)
		sameList(t, "PackMsgs", data, impl.OK, msgsByHand(list))
		got := impl.UnpackMsgs(data.Bytes)
		sameMsgsResult(t, "messages read back", got, impl.MsgsResult{Msgs: list})
		if !impl.SameMsgs(got.Msgs, list) {
			t.Errorf("SameMsgs of what is read back is not so: %v", list)
		}
		var pieces []byte
		for _, m := range list {
			pieces = append(pieces, impl.PackMsg(m).Bytes...)
		}
		sameList(t, "PackMsg of each", impl.BytesResult{Bytes: pieces}, impl.OK, data.Bytes)
	}
	for kind := range 256 {
		for _, n := range []int{0, 1, 159, 160} {
			check([]impl.Msg{{Kind: int64(kind), Body: someBytes(n)}})
			check([]impl.Msg{{Kind: 1}, {Kind: int64(kind), Body: make([]byte, n)}, {Kind: 2, Body: []byte{1}}})
		}
	}
	for n := range 161 {
		check([]impl.Msg{{Kind: 3, Body: bytes.Repeat([]byte{255}, n)}})
		check(msgsOf(n, 160-n, n))
	}
	for _, lengths := range lengthsOfMsgs() {
		if list := msgsOf(lengths...); codeOfMsgs(list) == impl.OK {
			check(list)
		}
	}
	// Messages in a body are read as a body, not as messages.
	check([]impl.Msg{{Kind: 1, Body: msgsByHand(msgsOf(0, 3, 9))}, {Kind: 2, Body: msgsByHand(msgsOf(0))}})
}

// nearlyMsgs are data that a list comes to, with some bytes changed, so that
// some of them are read and some not.
func nearlyMsgs(visit func(data []byte)) {
	seed := uint32(3)
	next := func(n int) int {
		seed = seed*1664525 + 1013904223
		return int(seed>>8) % n
	}
	for range 20000 {
		var lengths []int
		for range next(14) {
			lengths = append(lengths, next(1+[]int{0, 3, 44, 170}[next(4)]))
		}
		data := msgsByHand(msgsOf(lengths...))
		for range next(4) {
			if len(data) > 0 {
				data[next(len(data))] = byte(next(256))
			}
		}
		for range next(6) {
			data = append(data, byte(next(3)))
		}
		visit(data)
	}
}

func TestP7BytesThatAreReadAreTheirs(t *testing.T) {
	read, refused := 0, 0
	nearlyMsgs(func(data []byte) {
		got := impl.UnpackMsgs(data)
		sameMsgsResult(t, "UnpackMsgs", got, unpackByHand(data))
		if got.Code != impl.OK {
			refused++
			return
		}
		read++
		sameList(t, "what is read as messages", impl.PackMsgs(got.Msgs), impl.OK, data)
	})
	if read < 1000 || refused < 1000 {
		t.Errorf("%d are read, %d refused: too few to tell", read, refused)
	}
	visitAll([]byte{0, 1, 2, 255}, 6, func(data []byte) {
		got := impl.UnpackMsgs(data)
		if got.Code == impl.OK {
			sameList(t, "few bytes that are read as messages", impl.PackMsgs(got.Msgs), impl.OK, data)
		}
	})
}

func TestP7AllThatIsAheadOfAtIsRead(t *testing.T) {
	nearlyMsgs(func(data []byte) {
		got := impl.UnpackMsgs(data)
		if got.Code == impl.OK || len(data) > 600 {
			if got.At != 0 {
				t.Errorf("At is %d without a message that is wrong", got.At)
			}
			return
		}
		if got.At < 0 || got.At >= int64(len(data)) {
			t.Fatalf("At is %d of %d bytes", got.At, len(data))
		}
		ahead := impl.UnpackMsgs(data[:got.At])
		sameList(t, "what stands ahead of At", impl.PackMsgs(ahead.Msgs), impl.OK, data[:got.At])
	})
}

// lengthsOfBlocks are lists inside the bounds and outside them; some come to
// 160 bytes, or to a byte more or less.
func lengthsOfBlocks() [][]int {
	return [][]int{
		nil, {0}, {1}, {119}, {120}, {121}, {122}, {159}, {160}, {161}, {255}, {256}, {257}, {376}, {600}, {0, 0}, {1, 0, 2}, {0, 1, 0},
		{120, 0}, {0, 120}, {120, 37}, {120, 38}, {120, 39}, {38, 120}, {39, 120}, {120, 120}, {79, 79}, {79, 80}, {80, 78}, {121, 0}, {0, 121}, {121, 121},
		{120, 36, 0}, {120, 37, 0}, {120, 38, 0}, {0, 256}, {256, 0}, {0, 65536},
		repeated(0, 7), repeated(0, 8), repeated(0, 9), repeated(0, 10), repeated(0, 100), repeated(0, 160), repeated(1, 8), repeated(1, 9),
		repeated(19, 8), repeated(19, 9), append(repeated(19, 7), 20), append([]int{20}, repeated(19, 7)...), append(repeated(19, 7), 18), repeated(120, 8), repeated(120, 9), repeated(121, 9),
		append(repeated(0, 7), 120), append(repeated(0, 7), 121), append(repeated(0, 8), 1),
	}
}

func TestPackBlocks(t *testing.T) {
	for _, lengths := range lengthsOfBlocks() {
		list := lists(lengths...)
		code := codeOfBlocks(list)
		var want []byte
		if code == impl.OK {
			want = blocksByHand(list)
		}
		sameList(t, "PackBlocks", impl.PackBlocks(list), code, want)
	}
	for n := range 300 {
		for m := range 50 {
			list := lists(n, m)
			code := codeOfBlocks(list)
			var want []byte
			if code == impl.OK {
				want = blocksByHand(list)
			}
			sameList(t, "PackBlocks of two", impl.PackBlocks(list), code, want)
		}
	}
}

func sameBlocksByHand(t *testing.T, name string, data []byte) {
	t.Helper()
	want := unpackBlocksByHand(data)
	sameBlocks(t, name, impl.UnpackBlocks(data), want.Code, want.Blocks)
}

func TestUnpackBlocks(t *testing.T) {
	visitAll([]byte{0, 1, 2}, 10, func(data []byte) {
		sameBlocksByHand(t, "UnpackBlocks of few bytes", data)
	})
	for _, lengths := range lengthsOfBlocks() {
		// What PackBlocks would refuse is tried as well.
		data := blocksByHand(lists(lengths...))
		sameBlocksByHand(t, "UnpackBlocks", data)
		for n := range min(len(data), 200) {
			sameBlocksByHand(t, "UnpackBlocks of what is cut", data[:n])
			sameBlocksByHand(t, "UnpackBlocks of what is cut at its beginning", data[n:])
		}
		for _, b := range []byte{0, 1, 120, 121, 255} {
			sameBlocksByHand(t, "UnpackBlocks with a byte behind", append(bytes.Clone(data), b))
		}
	}
	for told := range 256 {
		for there := range 170 {
			sameBlocksByHand(t, "UnpackBlocks of a length that is told", append([]byte{byte(told)}, make([]byte, there)...))
		}
	}
}

func TestUnpackBlocksCodes(t *testing.T) {
	sameBlocks(t, "a byte is not there", impl.UnpackBlocks([]byte{1}), impl.ErrText, nil)
	sameBlocks(t, "a byte of the second is not there", impl.UnpackBlocks([]byte{1, 1, 1}), impl.ErrText, nil)
	sameBlocks(t, "121 bytes are there, but told", impl.UnpackBlocks(append([]byte{121}, make([]byte, 121)...)), impl.ErrText, nil)
	sameBlocks(t, "120 bytes are there", impl.UnpackBlocks(append([]byte{120}, make([]byte, 120)...)), impl.OK, [][]byte{make([]byte, 120)})
	sameBlocks(t, "a ninth block", impl.UnpackBlocks(make([]byte, 9)), impl.ErrText, nil)
	sameBlocks(t, "eight blocks", impl.UnpackBlocks(make([]byte, 8)), impl.OK, make([][]byte, 8))
	sameBlocks(t, "160 zeros", impl.UnpackBlocks(make([]byte, 160)), impl.ErrText, nil)
	for _, n := range []int{161, 162, 416, 600, 601, 65536} {
		sameBlocks(t, "data too long", impl.UnpackBlocks(make([]byte, n)), impl.ErrMany, nil)
		sameBlocks(t, "data too long", impl.UnpackBlocks(bytes.Repeat([]byte{255}, n)), impl.ErrMany, nil)
	}
	tooLong := blocksByHand(lists(120, 39))
	sameBlocks(t, "blocks of 161 bytes", impl.UnpackBlocks(tooLong), impl.ErrMany, nil)
	sameBlocks(t, "160 bytes of them", impl.UnpackBlocks(tooLong[:160]), impl.ErrText, nil)
}

func TestP7BlocksAreReadBack(t *testing.T) {
	check := func(list [][]byte) {
		t.Helper()
		data := impl.PackBlocks(list)
		sameList(t, "PackBlocks", data, impl.OK, blocksByHand(list))
		sameBlocks(t, "blocks read back", impl.UnpackBlocks(data.Bytes), impl.OK, list)
	}
	for _, lengths := range lengthsOfBlocks() {
		if list := lists(lengths...); codeOfBlocks(list) == impl.OK {
			check(list)
		}
	}
	for n := range 121 {
		check(lists(n))
		check([][]byte{make([]byte, n)})
		check([][]byte{{}, bytes.Repeat([]byte{255}, n), {}})
		check(lists(min(n, 30), min(120-n, 30), min(n, 30), 0, 1))
	}
}

func TestP7BytesThatAreReadAreTheBlocks(t *testing.T) {
	read := 0
	visitAll([]byte{0, 1, 2, 3}, 8, func(data []byte) {
		got := impl.UnpackBlocks(data)
		if got.Code != impl.OK {
			return
		}
		read++
		sameList(t, "what is read as blocks", impl.PackBlocks(got.Blocks), impl.OK, data)
	})
	if read < 1000 {
		t.Errorf("%d are read: too few to tell", read)
	}
}

func TestSameMsgs(t *testing.T) {
	all := [][]impl.Msg{
		nil,
		{{}},
		{{Kind: 1}},
		{{Kind: 256}},
		{{Kind: 257}},
		{{Kind: -1}},
		{{Kind: math.MinInt64}},
		{{Kind: math.MaxInt64}},
		{{Kind: 1, Body: []byte{0}}},
		{{Kind: 1, Body: []byte{0, 0}}},
		{{Kind: 1, Body: []byte{0, 1}}},
		{{Kind: 1, Body: []byte{1, 0}}},
		{{Kind: 2, Body: []byte{1, 0}}},
		{{Kind: 1, Body: someBytes(160)}},
		{{Kind: 1, Body: changed(someBytes(160), 0)}},
		{{Kind: 1, Body: changed(someBytes(160), 1279)}},
		{{Kind: 1, Body: someBytes(161)}},
		{{Kind: 1, Body: changed(someBytes(161), 1287)}},
		{{Kind: 1}, {Kind: 2}},
		{{Kind: 2}, {Kind: 1}},
		{{Kind: 1}, {Kind: 1}},
		{{Kind: 1, Body: []byte{2}}, {Kind: 3}},
		{{Kind: 1}, {Kind: 3, Body: []byte{2}}},
		msgsOf(repeated(5, 12)...),
		msgsOf(repeated(5, 13)...),
		msgsOf(repeated(5, 14)...),
		withKind(msgsOf(repeated(5, 14)...), 13, 0),
		withBody(msgsOf(repeated(5, 14)...), 13, 4),
		msgsOf(append([]int{4}, repeated(5, 13)...)...),
	}
	for i, a := range all {
		for j, b := range all {
			if got := impl.SameMsgs(a, cloneMsgs(b)); got != (i == j) {
				t.Errorf("SameMsgs of list %d and list %d is %v", i, j, got)
			}
		}
	}
}

func TestSameMsgsHangsOnEachPlace(t *testing.T) {
	list := msgsOf(repeated(5, 12)...)
	for i := range list {
		other := withKind(list, i, list[i].Kind+1)
		if impl.SameMsgs(list, other) || impl.SameMsgs(other, list) || impl.SameMsgs(list[:i], list) || impl.SameMsgs(list, list[:i]) {
			t.Errorf("the kind of message %d is not seen", i)
		}
		for bit := range 40 {
			other := cloneMsgs(list)
			other[i].Body = changed(other[i].Body, bit)
			if impl.SameMsgs(list, other) || impl.SameMsgs(other, list) {
				t.Errorf("bit %d of message %d is not seen", bit, i)
			}
		}
	}
}

// roomyMsgs have room behind the list and behind each Body.
func roomyMsgs(list []impl.Msg) []impl.Msg {
	var out []impl.Msg
	for _, m := range list {
		out = append(out, impl.Msg{Kind: m.Kind, Body: roomyFor(m.Body)})
	}
	return append(out, impl.Msg{Kind: 77}, impl.Msg{Kind: 78})[:len(list)]
}

func staysMsgs(list []impl.Msg, was []impl.Msg) bool {
	behind := list[len(was) : len(was)+2]
	if len(list) != len(was) || behind[0].Kind != 77 || behind[1].Kind != 78 || behind[0].Body != nil || behind[1].Body != nil {
		return false
	}
	for i, m := range list {
		if m.Kind != was[i].Kind || len(m.Body) != len(was[i].Body) || !stays(m.Body, was[i].Body) {
			return false
		}
	}
	return true
}

func roomyBlocks(list [][]byte) [][]byte {
	var out [][]byte
	for _, b := range list {
		out = append(out, roomyFor(b))
	}
	return append(out, []byte{77}, []byte{78})[:len(list)]
}

func staysBlocks(list [][]byte, was [][]byte) bool {
	behind := list[len(was) : len(was)+2]
	if len(list) != len(was) || string(behind[0]) != "M" || string(behind[1]) != "N" {
		return false
	}
	for i, b := range list {
		if len(b) != len(was[i]) || !stays(b, was[i]) {
			return false
		}
	}
	return true
}

func TestP1WireArgumentsStay(t *testing.T) {
	lengths := append(lengthsOfMsgs(), lengthsOfBlocks()...)
	for _, l := range lengths {
		was := msgsOf(l...)
		for _, was := range [][]impl.Msg{was, append([]impl.Msg{{Kind: 256, Body: []byte{1}}}, was...)} {
			list, other := roomyMsgs(was), roomyMsgs(was)
			impl.PackMsgs(list)
			impl.SameMsgs(list, other)
			impl.SameMsgs(list, other[:len(other)/2])
			for _, m := range list {
				impl.MsgFault(m)
				impl.PackMsg(m)
			}
			if !staysMsgs(list, was) || !staysMsgs(other, was) {
				t.Errorf("messages of %v bytes are changed", l)
			}
		}
		wasBlocks := lists(l...)
		blocks := roomyBlocks(wasBlocks)
		impl.PackBlocks(blocks)
		if !staysBlocks(blocks, wasBlocks) {
			t.Errorf("blocks of %v bytes are changed", l)
		}
		for _, wasData := range [][]byte{msgsByHand(was), blocksByHand(wasBlocks), someBytes(len(wasBlocks))} {
			data := roomyFor(wasData)
			impl.UnpackMsgs(data)
			impl.UnpackBlocks(data)
			if !stays(data, wasData) {
				t.Errorf("data of %d bytes are changed", len(wasData))
			}
		}
	}
}

func TestP1PackedIsNewMemory(t *testing.T) {
	for _, lengths := range [][]int{{0}, {1}, {120}, {2, 0, 3}, {0, 0, 0}, repeated(19, 8)} {
		msgs, blocks := msgsOf(lengths...), lists(lengths...)
		asks := map[string]func() impl.BytesResult{
			"PackMsg":    func() impl.BytesResult { return impl.PackMsg(msgs[0]) },
			"PackMsgs":   func() impl.BytesResult { return impl.PackMsgs(msgs) },
			"PackBlocks": func() impl.BytesResult { return impl.PackBlocks(blocks) },
		}
		for name, ask := range asks {
			first := ask()
			want := bytes.Clone(first.Bytes)
			second := ask()
			spoil(first.Bytes)
			sameList(t, name+" told ahead", second, impl.OK, want)
			if !alikeMsgs(msgs, msgsOf(lengths...)) || !slices.EqualFunc(blocks, lists(lengths...), bytes.Equal) {
				t.Errorf("%s shares memory with its argument", name)
			}
			sameList(t, name+" told behind", ask(), impl.OK, want)
			for i := range msgs {
				spoil(msgs[i].Body)
				spoil(blocks[i])
			}
			sameList(t, name+" of what is changed behind it", second, impl.OK, want)
			msgs, blocks = msgsOf(lengths...), lists(lengths...)
		}
	}
}

func TestP1MessagesReadAreNewMemory(t *testing.T) {
	for _, lengths := range [][]int{{0}, {1}, {160}, {2, 0, 3}, {1, 1, 1}, {160, 160, 160, 104}, repeated(46, 12)} {
		want := msgsOf(lengths...)
		was := msgsByHand(want)
		data := roomyFor(was)
		first, second := impl.UnpackMsgs(data), impl.UnpackMsgs(data)
		for i := range first.Msgs {
			// Each Body has memory of its own, to the end of its room.
			spoil(first.Msgs[i].Body)
			if rest := first.Msgs[i+1:]; !alikeMsgs(rest, want[i+1:]) {
				t.Errorf("message %d of %v shares memory with one behind it", i, lengths)
			}
			first.Msgs[i] = impl.Msg{Kind: -5}
		}
		for i := len(second.Msgs) - 1; i >= 0; i-- {
			again := impl.UnpackMsgs(data).Msgs
			spoil(again[i].Body)
			if !alikeMsgs(again[:i], want[:i]) {
				t.Errorf("message %d of %v shares memory with one ahead of it", i, lengths)
			}
		}
		if !stays(data, was) {
			t.Errorf("messages of %v share memory with the data", lengths)
		}
		sameMsgsResult(t, "UnpackMsgs told ahead", second, impl.MsgsResult{Msgs: want})
		sameMsgsResult(t, "UnpackMsgs told behind", impl.UnpackMsgs(data), impl.MsgsResult{Msgs: want})
		spoil(data)
		sameMsgsResult(t, "UnpackMsgs of what is changed behind it", second, impl.MsgsResult{Msgs: want})
	}
}

func TestP1BlocksReadAreNewMemory(t *testing.T) {
	for _, lengths := range [][]int{{0}, {1}, {120}, {2, 0, 3}, {1, 1, 1}, {120, 38}, repeated(19, 8)} {
		want := lists(lengths...)
		was := blocksByHand(want)
		data := roomyFor(was)
		first, second := impl.UnpackBlocks(data), impl.UnpackBlocks(data)
		for i := range first.Blocks {
			// Each block has memory of its own, to the end of its room.
			spoil(first.Blocks[i])
			sameBlocks(t, "blocks behind one that is changed", impl.BlocksResult{Blocks: first.Blocks[i+1:]}, impl.OK, want[i+1:])
			first.Blocks[i] = nil
		}
		for i := range second.Blocks {
			again := impl.UnpackBlocks(data).Blocks
			spoil(again[i])
			sameBlocks(t, "blocks ahead of one that is changed", impl.BlocksResult{Blocks: again[:i]}, impl.OK, want[:i])
		}
		if !stays(data, was) {
			t.Errorf("blocks of %v share memory with the data", lengths)
		}
		sameBlocks(t, "UnpackBlocks told ahead", second, impl.OK, want)
		sameBlocks(t, "UnpackBlocks told behind", impl.UnpackBlocks(data), impl.OK, want)
		spoil(data)
		sameBlocks(t, "UnpackBlocks of what is changed behind it", second, impl.OK, want)
	}
}

func TestP1WireOfOneListManyTimes(t *testing.T) {
	// The pieces of a list may lie in one memory.
	whole := someBytes(40)
	list := []impl.Msg{{Kind: 1, Body: whole}, {Kind: 2, Body: whole[:20]}, {Kind: 3, Body: whole[10:30]}, {Kind: 1, Body: whole}}
	sameList(t, "PackMsgs of one memory", impl.PackMsgs(list), impl.OK, msgsByHand(cloneMsgs(list)))
	blocks := [][]byte{whole, whole[:20], whole[10:30], whole}
	sameList(t, "PackBlocks of one memory", impl.PackBlocks(blocks), impl.OK, blocksByHand(cloneBlocks(blocks)))
	if !impl.SameMsgs(list, list) || !impl.SameMsgs(list[:1], list[3:]) || impl.SameMsgs(list[:2], list[1:3]) {
		t.Error("SameMsgs of one memory")
	}
	if !bytes.Equal(whole, someBytes(40)) {
		t.Error("that memory is changed")
	}
}

func TestP1WireHangsOnArgumentsAlone(t *testing.T) {
	list, blocks := msgsOf(3, 0, 160), lists(3, 0, 120)
	data, packed := msgsByHand(list), blocksByHand(blocks)
	ask := func() {
		t.Helper()
		sameList(t, "PackMsg", impl.PackMsg(list[0]), impl.OK, data[:7])
		sameList(t, "PackMsgs", impl.PackMsgs(list), impl.OK, data)
		sameMsgsResult(t, "UnpackMsgs", impl.UnpackMsgs(data), impl.MsgsResult{Msgs: list})
		sameMsgsResult(t, "UnpackMsgs of a part", impl.UnpackMsgs(data[:12]), impl.MsgsResult{Code: impl.ErrText, At: 11})
		sameList(t, "PackBlocks", impl.PackBlocks(blocks), impl.OK, packed)
		sameBlocks(t, "UnpackBlocks", impl.UnpackBlocks(packed), impl.OK, blocks)
		if impl.MsgFault(list[0]) != impl.OK || !impl.SameMsgs(list, cloneMsgs(list)) || impl.SameMsgs(list, list[:2]) {
			t.Error("MsgFault or SameMsgs")
		}
	}
	ask()
	for _, lengths := range append(lengthsOfMsgs(), lengthsOfBlocks()...) {
		others := msgsOf(lengths...)
		impl.PackMsgs(others)
		impl.PackMsgs(append(others, impl.Msg{Kind: -1}))
		impl.UnpackMsgs(msgsByHand(others))
		impl.UnpackMsgs(append(msgsByHand(others), 1))
		impl.PackBlocks(lists(lengths...))
		impl.UnpackBlocks(blocksByHand(lists(lengths...)))
		impl.SameMsgs(list, others)
	}
	ask()
}

func TestP1WireOfNothing(t *testing.T) {
	// Nothing, be it nil or empty, is one value.
	for _, none := range [][]byte{nil, {}} {
		sameMsgsResult(t, "UnpackMsgs of nothing", impl.UnpackMsgs(none), impl.MsgsResult{})
		sameBlocks(t, "UnpackBlocks of nothing", impl.UnpackBlocks(none), impl.OK, nil)
		m := impl.Msg{Kind: 5, Body: none}
		if impl.MsgFault(m) != impl.OK {
			t.Error("MsgFault of no body")
		}
		sameList(t, "PackMsg of no body", impl.PackMsg(m), impl.OK, []byte{5, 0, 0, 0})
		sameList(t, "PackMsgs of no body", impl.PackMsgs([]impl.Msg{m, m}), impl.OK, []byte{5, 0, 0, 0, 5, 0, 0, 0})
		sameList(t, "PackBlocks of empty ones", impl.PackBlocks([][]byte{none, none}), impl.OK, []byte{0, 0})
		for _, other := range [][]byte{nil, {}} {
			if !impl.SameMsgs([]impl.Msg{m}, []impl.Msg{{Kind: 5, Body: other}}) {
				t.Error("SameMsgs of no body")
			}
		}
	}
	for _, none := range [][]impl.Msg{nil, {}} {
		sameList(t, "PackMsgs of no messages", impl.PackMsgs(none), impl.OK, nil)
		if !impl.SameMsgs(none, nil) || !impl.SameMsgs(nil, none) || !impl.SameMsgs(none, []impl.Msg{}) {
			t.Error("SameMsgs of no messages")
		}
		if impl.SameMsgs(none, []impl.Msg{{}}) || impl.SameMsgs([]impl.Msg{{}}, none) {
			t.Error("a message with nothing in it is not seen")
		}
	}
	for _, none := range [][][]byte{nil, {}} {
		sameList(t, "PackBlocks of no blocks", impl.PackBlocks(none), impl.OK, nil)
	}
}
