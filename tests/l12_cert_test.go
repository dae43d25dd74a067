package tests

import (
	"bytes"
	"encoding/binary"
	"fmt"
	"math"
	"slices"
	"testing"

	"loop.example/g00375/impl"
)

func when(fault bool, code int64) int64 {
	if fault {
		return code
	}
	return impl.OK
}

// hasNoCert and the like are what the program's answers are held against.
func hasNoCert(c impl.Cert) bool {
	return c.Id < 1 || c.Id > 99 || c.Owner < 1 || c.Owner > 9 || c.Until < 0 || c.Until > 9999
}

func certsFaultByHand(list []impl.Cert) int64 {
	code := whenAbove(len(list), 8)
	seen := map[int64]int{}
	for _, c := range list {
		code = firstCode(code, whenRange(hasNoCert(c)), when(seen[c.Id] > 0, impl.ErrTaken))
		seen[c.Id]++
	}
	return code
}

func certByHand(c impl.Cert) []byte {
	return binary.BigEndian.AppendUint16([]byte{byte(c.Id), byte(c.Owner)}, uint16(c.Until))
}

func packCertByHand(c impl.Cert) impl.BytesResult {
	if hasNoCert(c) {
		return impl.BytesResult{Code: impl.ErrRange}
	}
	return impl.BytesResult{Bytes: certByHand(c)}
}

func unpackCertByHand(data []byte) impl.CertResult {
	if len(data) != 4 {
		return impl.CertResult{Code: impl.ErrText}
	}
	c := impl.Cert{Id: int64(data[0]), Owner: int64(data[1]), Until: int64(binary.BigEndian.Uint16(data[2:]))}
	if hasNoCert(c) {
		return impl.CertResult{Code: impl.ErrText}
	}
	return impl.CertResult{Cert: c}
}

func lookByHand(list []impl.Cert, id int64) impl.CertResult {
	code := certsFaultByHand(list)
	at := slices.IndexFunc(list, func(c impl.Cert) bool { return c.Id == id })
	code = firstCode(code, when(at < 0, impl.ErrNone))
	if code != impl.OK {
		return impl.CertResult{Code: code}
	}
	return impl.CertResult{Cert: list[at]}
}

func signsFaultByHand(signs []impl.Sign) int64 {
	code := whenAbove(len(signs), 40)
	for _, s := range signs {
		code = firstCode(code, whenRange(s.Cert < 1 || s.Cert > 99 || s.By < 0 || s.By > 9), whenForm(len(s.Digest) != 32))
	}
	return code
}

// signing is all that SignWith is asked with.
type signing struct {
	list   []impl.Cert
	leaked []int64
	signs  []impl.Sign
	id, by int64
	digest []byte
}

func (x signing) ask() impl.SignsResult {
	return impl.SignWith(x.list, x.leaked, x.signs, x.id, x.by, x.digest)
}

func (x signing) byHand() impl.SignsResult {
	found := lookByHand(x.list, x.id)
	code := firstCode(
		certsFaultByHand(x.list),
		signsFaultByHand(x.signs),
		found.Code,
		whenRange(x.by < 0 || x.by > 9),
		whenForm(len(x.digest) != 32),
		when(x.by != found.Cert.Owner && !slices.Contains(x.leaked, x.id), impl.ErrSign),
		when(len(x.signs) == 40, impl.ErrMany),
	)
	if code != impl.OK {
		return impl.SignsResult{Code: code}
	}
	given := []impl.Sign{{Cert: x.id, By: x.by, Digest: x.digest}}
	return impl.SignsResult{Place: int64(len(x.signs)), Signs: slices.Concat(x.signs, given)}
}

func (x signing) clone() signing {
	return signing{slices.Clone(x.list), slices.Clone(x.leaked), cloneSigns(x.signs), x.id, x.by, bytes.Clone(x.digest)}
}

func checkByHand(signs []impl.Sign, place int64, id int64, digest []byte) bool {
	if signsFaultByHand(signs) != impl.OK || place < 0 || place >= int64(len(signs)) {
		return false
	}
	return signs[place].Cert == id && string(signs[place].Digest) == string(digest)
}

func cloneSigns(list []impl.Sign) []impl.Sign {
	var out []impl.Sign
	for _, s := range list {
		out = append(out, impl.Sign{Cert: s.Cert, By: s.By, Digest: bytes.Clone(s.Digest)})
	}
	return out
}

func alikeSigns(a []impl.Sign, b []impl.Sign) bool {
	return slices.EqualFunc(a, b, func(x impl.Sign, y impl.Sign) bool {
		return x.Cert == y.Cert && x.By == y.By && bytes.Equal(x.Digest, y.Digest)
	})
}

func sameSigns(t *testing.T, name string, got impl.SignsResult, want impl.SignsResult) {
	t.Helper()
	if got.Code != want.Code || got.Place != want.Place || !alikeSigns(got.Signs, want.Signs) {
		t.Errorf("%s: %+v, want %+v", name, got, want)
	}
}

func sameCert(t *testing.T, name string, got impl.CertResult, want impl.CertResult) {
	t.Helper()
	if got != want {
		t.Errorf("%s: %+v, want %+v", name, got, want)
	}
}

func sameBool(t *testing.T, name string, got bool, want bool) {
	t.Helper()
	if got != want {
		t.Errorf("%s: %v, want %v", name, got, want)
	}
}

// idsAsked and the like have the edges, inside the bounds and outside them, and
// what would be inside them as one byte or two.
func idsAsked() []int64 {
	return []int64{-1, 0, 1, 2, 50, 98, 99, 100, 101, 255, 256, 257, 355, -255, 1<<32 + 1, math.MinInt64, math.MinInt64 + 1, math.MaxInt64}
}

func ownersAsked() []int64 {
	return []int64{-1, 0, 1, 2, 8, 9, 10, 11, 255, 256, 257, 265, -255, 1<<32 + 1, math.MinInt64, math.MinInt64 + 1, math.MaxInt64}
}

func untilsAsked() []int64 {
	return []int64{-2, -1, 0, 1, 254, 255, 256, 257, 511, 512, 9983, 9984, 9998, 9999, 10000, 10001, 65535, 65536, 65537, -65536, 1 << 32, math.MinInt64, math.MaxInt64}
}

func goodUntils() []int64 {
	return []int64{0, 1, 255, 256, 257, 9984, 9998, 9999}
}

// someCerts have Ids and Owners of which no two alike stand at one place.
func someCerts(n int) []impl.Cert {
	var list []impl.Cert
	for i := range n {
		list = append(list, impl.Cert{Id: int64(1 + 14*i%99), Owner: int64(1 + (i+2)%9), Until: int64(1250*i + 249)})
	}
	return list
}

// certsOfEdges are eight, with the least and the greatest that there may be.
func certsOfEdges() []impl.Cert {
	return []impl.Cert{{Id: 99, Owner: 1, Until: 9999}, {Id: 1, Owner: 9, Until: 0}, {Id: 2, Owner: 1, Until: 255}, {Id: 98, Owner: 2, Until: 256},
		{Id: 3, Owner: 9, Until: 9999}, {Id: 50, Owner: 5, Until: 300}, {Id: 4, Owner: 8, Until: 1}, {Id: 97, Owner: 2, Until: 0}}
}

func digestOf(n int) []byte {
	data := rising(32)
	data[0], data[31] = byte(n), byte(3*n)
	return data
}

// someSigns are signatures of certificates that need not be in any list.
func someSigns(n int) []impl.Sign {
	var signs []impl.Sign
	for i := range n {
		signs = append(signs, impl.Sign{Cert: int64(1 + 7*i%99), By: int64(i % 10), Digest: digestOf(i)})
	}
	return signs
}

func withCert(list []impl.Cert, at int, c impl.Cert) []impl.Cert {
	out := slices.Clone(list)
	out[at] = c
	return out
}

func withSign(signs []impl.Sign, at int, s impl.Sign) []impl.Sign {
	out := slices.Clone(signs)
	out[at] = s
	return out
}

func TestCertConstants(t *testing.T) {
	if impl.MaxCerts != 8 || impl.MaxSigns != 40 {
		t.Error(impl.MaxCerts, impl.MaxSigns)
	}
}

func TestCertsKnown(t *testing.T) {
	known := map[string]impl.Cert{
		"0102012c": {Id: 1, Owner: 2, Until: 300},
		"01010000": {Id: 1, Owner: 1, Until: 0},
		"6309270f": {Id: 99, Owner: 9, Until: 9999},
		"320500ff": {Id: 50, Owner: 5, Until: 255},
		"0a070100": {Id: 10, Owner: 7, Until: 256},
	}
	for text, c := range known {
		sameList(t, text, impl.PackCert(c), impl.OK, hexed(t, text))
		sameCert(t, text, impl.UnpackCert(hexed(t, text)), impl.CertResult{Cert: c})
	}
	for _, text := range []string{"", "00", "0102", "010201", "0102012c00", "0002012c", "0100012c", "6402012c", "010a012c", "01022710", "0102ffff", "ff02012c", "01ff012c", "00000000", "ffffffff"} {
		sameCert(t, text, impl.UnpackCert(hexed(t, text)), impl.CertResult{Code: impl.ErrText})
	}
}

func TestPackCert(t *testing.T) {
	for _, id := range idsAsked() {
		for _, owner := range ownersAsked() {
			for _, until := range untilsAsked() {
				c := impl.Cert{Id: id, Owner: owner, Until: until}
				want := packCertByHand(c)
				sameList(t, fmt.Sprintf("PackCert of %+v", c), impl.PackCert(c), want.Code, want.Bytes)
			}
		}
	}
}

func TestUnpackCert(t *testing.T) {
	// Each first, second and third byte, with those behind it at their edges.
	for first := range 256 {
		for second := range 256 {
			for _, until := range []int{0, 255, 256, 9999, 10000, 65535} {
				data := []byte{byte(first), byte(second), byte(until >> 8), byte(until)}
				sameCert(t, fmt.Sprintf("UnpackCert of %x", data), impl.UnpackCert(data), unpackCertByHand(data))
			}
		}
	}
	for until := range 65536 {
		data := []byte{99, 9, byte(until >> 8), byte(until)}
		sameCert(t, fmt.Sprintf("UnpackCert of %x", data), impl.UnpackCert(data), unpackCertByHand(data))
	}
}

func TestUnpackCertOfOtherLengths(t *testing.T) {
	good := certByHand(impl.Cert{Id: 1, Owner: 1, Until: 257})
	long := slices.Concat(good, good, good)
	for n := range len(long) + 1 {
		if n != 4 {
			sameCert(t, fmt.Sprintf("UnpackCert of %d bytes", n), impl.UnpackCert(long[:n]), impl.CertResult{Code: impl.ErrText})
			sameCert(t, fmt.Sprintf("UnpackCert of %d zeros", n), impl.UnpackCert(make([]byte, n)), impl.CertResult{Code: impl.ErrText})
		}
	}
	for _, n := range []int{256, 260, 600, 601, 65536, 65540} {
		sameCert(t, fmt.Sprintf("UnpackCert of %d bytes", n), impl.UnpackCert(bytes.Repeat([]byte{1}, n)), impl.CertResult{Code: impl.ErrText})
	}
}

func TestCertsFault(t *testing.T) {
	for n := range 9 {
		sameCode(t, fmt.Sprintf("CertsFault of %d", n), impl.CertsFault(someCerts(n)), impl.OK)
	}
	sameCode(t, "CertsFault of the edges", impl.CertsFault(certsOfEdges()), impl.OK)
	sameCode(t, "CertsFault of 9", impl.CertsFault(someCerts(9)), impl.ErrMany)
	sameCode(t, "CertsFault of 300", impl.CertsFault(make([]impl.Cert, 300)), impl.ErrMany)
	// One that is at an edge, at each place of a list.
	for _, id := range idsAsked() {
		for _, owner := range ownersAsked() {
			for _, until := range untilsAsked() {
				c := impl.Cert{Id: id, Owner: owner, Until: until}
				sameCode(t, fmt.Sprintf("CertsFault of %+v", c), impl.CertsFault([]impl.Cert{c}), certsFaultByHand([]impl.Cert{c}))
			}
		}
	}
	for at := range 8 {
		for _, id := range idsAsked() {
			list := withCert(certsOfEdges(), at, impl.Cert{Id: id, Owner: 1, Until: 0})
			sameCode(t, fmt.Sprintf("CertsFault with %d at %d", id, at), impl.CertsFault(list), certsFaultByHand(list))
		}
	}
}

func TestCertsFaultOfTwoWithOneId(t *testing.T) {
	for a := range 8 {
		for b := range a {
			// Alike in their Ids alone, and alike as they are.
			ids := someCerts(8)
			ids[a].Id = ids[b].Id
			sameCode(t, fmt.Sprintf("one Id at %d and %d", b, a), impl.CertsFault(ids), impl.ErrTaken)
			sameCert(t, fmt.Sprintf("LookCert, one Id at %d and %d", b, a), impl.LookCert(ids, ids[b].Id), impl.CertResult{Code: impl.ErrTaken})
			whole := withCert(ids, a, ids[b])
			sameCode(t, fmt.Sprintf("one certificate at %d and %d", b, a), impl.CertsFault(whole), impl.ErrTaken)
			// Owners and Untils may be the same.
			but := someCerts(8)
			but[a].Owner, but[a].Until = but[b].Owner, but[b].Until
			sameCode(t, fmt.Sprintf("one Owner and Until at %d and %d", b, a), impl.CertsFault(but), impl.OK)
		}
	}
}

func TestCertsCodesInOrder(t *testing.T) {
	wrong, twin := impl.Cert{Id: 100, Owner: 1}, impl.Cert{Id: 1, Owner: 1}
	asks := []struct {
		name string
		list []impl.Cert
		code int64
	}{
		{"too many, and all of them wrong", make([]impl.Cert, 9), impl.ErrMany},
		{"too many, the first wrong", withCert(someCerts(9), 0, wrong), impl.ErrMany},
		{"too many of one Id", slices.Repeat([]impl.Cert{twin}, 9), impl.ErrMany},
		{"a wrong one ahead of twins", []impl.Cert{wrong, twin, twin}, impl.ErrRange},
		{"twins ahead of a wrong one", []impl.Cert{twin, twin, wrong}, impl.ErrTaken},
		{"a wrong one between twins", []impl.Cert{twin, wrong, twin}, impl.ErrRange},
		{"a twin that is wrong", []impl.Cert{twin, {Id: 1, Owner: 10}}, impl.ErrRange},
		{"two of the same wrong Id", []impl.Cert{wrong, wrong}, impl.ErrRange},
		{"two of zero", make([]impl.Cert, 2), impl.ErrRange},
	}
	for _, a := range asks {
		sameCode(t, "CertsFault: "+a.name, impl.CertsFault(a.list), a.code)
		sameCode(t, "by hand: "+a.name, certsFaultByHand(a.list), a.code)
		for _, id := range idsAsked() {
			sameCert(t, "LookCert: "+a.name, impl.LookCert(a.list, id), impl.CertResult{Code: a.code})
		}
		all := signing{a.list, []int64{1}, make([]impl.Sign, 41), -1, -1, nil}
		sameSigns(t, "SignWith: "+a.name, all.ask(), impl.SignsResult{Code: a.code})
	}
}

func TestLookCert(t *testing.T) {
	lists := [][]impl.Cert{nil, {}, someCerts(1), someCerts(2), someCerts(8), certsOfEdges(), someCerts(9), {{Id: 1, Owner: 1}, {Id: 1, Owner: 2}}, {{}}, {{Id: 99, Owner: 9, Until: 10000}}}
	for _, list := range lists {
		for id := int64(-2); id < 260; id++ {
			sameCert(t, fmt.Sprintf("LookCert of %d in %v", id, list), impl.LookCert(list, id), lookByHand(list, id))
		}
		for _, id := range idsAsked() {
			sameCert(t, fmt.Sprintf("LookCert of %d in %v", id, list), impl.LookCert(list, id), lookByHand(list, id))
		}
	}
}

func TestSignsFault(t *testing.T) {
	for _, n := range []int{0, 1, 2, 39, 40, 41, 42, 300} {
		sameCode(t, fmt.Sprintf("SignsFault of %d", n), impl.SignsFault(someSigns(n)), whenAbove(n, 40))
	}
	givers := append([]int64{3}, ownersAsked()...)
	digests := append(lists(0, 1, 31, 32, 33, 64, 288), nil, make([]byte, 32), bytes.Repeat([]byte{255}, 32))
	for _, id := range idsAsked() {
		for _, by := range givers {
			for _, digest := range digests {
				s := impl.Sign{Cert: id, By: by, Digest: digest}
				for _, signs := range [][]impl.Sign{{s}, {s, {}}, withSign(someSigns(40), 0, s), withSign(someSigns(40), 39, s), withSign(someSigns(41), 20, s)} {
					sameCode(t, fmt.Sprintf("SignsFault with %+v among %d", s, len(signs)), impl.SignsFault(signs), signsFaultByHand(signs))
				}
			}
		}
	}
	for at := range 40 {
		sameCode(t, "SignsFault of a wrong Cert", impl.SignsFault(withSign(someSigns(40), at, impl.Sign{Cert: 100, By: 1, Digest: digestOf(1)})), impl.ErrRange)
		sameCode(t, "SignsFault of a wrong By", impl.SignsFault(withSign(someSigns(40), at, impl.Sign{Cert: 1, By: 10, Digest: digestOf(1)})), impl.ErrRange)
		sameCode(t, "SignsFault of a wrong Digest", impl.SignsFault(withSign(someSigns(40), at, impl.Sign{Cert: 1, By: 1, Digest: someBytes(31)})), impl.ErrForm)
	}
}

func TestSignsCodesInOrder(t *testing.T) {
	good := impl.Sign{Cert: 1, By: 2, Digest: digestOf(1)}
	far, short := impl.Sign{Cert: 0, By: 2, Digest: digestOf(1)}, impl.Sign{Cert: 1, By: 2}
	asks := []struct {
		name  string
		signs []impl.Sign
		code  int64
	}{
		{"too many, and all of them wrong", make([]impl.Sign, 41), impl.ErrMany},
		{"too many, the first without a digest", withSign(someSigns(41), 0, short), impl.ErrMany},
		{"wrong in both", []impl.Sign{good, {Cert: 100, By: 10, Digest: someBytes(31)}}, impl.ErrRange},
		{"a wrong By and no digest", []impl.Sign{{Cert: 1, By: -1}}, impl.ErrRange},
		{"no digest ahead of a wrong Cert", []impl.Sign{short, far}, impl.ErrForm},
		{"a wrong Cert ahead of no digest", []impl.Sign{far, short}, impl.ErrRange},
		{"no digest behind good ones", []impl.Sign{good, good, short, far}, impl.ErrForm},
	}
	for _, a := range asks {
		sameCode(t, "SignsFault: "+a.name, impl.SignsFault(a.signs), a.code)
		sameCode(t, "by hand: "+a.name, signsFaultByHand(a.signs), a.code)
		// All behind it is wrong as well, and all ahead of it is not.
		for _, x := range []signing{{someCerts(8), nil, a.signs, 100, -1, nil}, {nil, nil, a.signs, 1, 10, someBytes(33)}, {someCerts(2), []int64{1}, a.signs, 1, 3, digestOf(1)}} {
			sameSigns(t, "SignWith: "+a.name, x.ask(), impl.SignsResult{Code: a.code})
		}
		for place := int64(-1); place < 42; place++ {
			sameBool(t, "CheckSign: "+a.name, impl.CheckSign(a.signs, place, 1, digestOf(1)), false)
		}
	}
	// A list of certificates with a fault is told ahead of signatures with one.
	for _, a := range asks {
		x := signing{[]impl.Cert{{Id: 1, Owner: 1}, {Id: 1, Owner: 1}}, nil, a.signs, 1, 1, digestOf(1)}
		sameSigns(t, "SignWith of twins: "+a.name, x.ask(), impl.SignsResult{Code: impl.ErrTaken})
	}
}

func TestSignWith(t *testing.T) {
	certs := [][]impl.Cert{nil, {{Id: 1, Owner: 2, Until: 300}}, certsOfEdges(), {{Id: 1, Owner: 10}}}
	leaks := [][]int64{nil, {1}, {99, 1, 0, -1, math.MinInt64, math.MaxInt64, 100}}
	digests := append(lists(0, 31, 32, 33), nil)
	for _, list := range certs {
		for _, leaked := range leaks {
			for _, n := range []int{0, 1, 39, 40, 41} {
				for _, id := range idsAsked() {
					for _, by := range ownersAsked() {
						for _, digest := range digests {
							x := signing{list, leaked, someSigns(n), id, by, digest}
							sameSigns(t, fmt.Sprintf("SignWith of %d certificates, %v leaked, %d signatures, id %d, by %d, %d bytes", len(list), leaked, n, id, by, len(digest)), x.ask(), x.byHand())
						}
					}
				}
			}
		}
	}
}

func TestSignWithCodesInOrder(t *testing.T) {
	// Each row has one wrong thing less than the one ahead.
	list := []impl.Cert{{Id: 1, Owner: 2, Until: 300}, {Id: 2, Owner: 3, Until: 9}}
	full := someSigns(40)
	rows := []struct {
		x    signing
		code int64
	}{
		{signing{make([]impl.Cert, 9), nil, make([]impl.Sign, 41), 100, 10, nil}, impl.ErrMany},
		{signing{[]impl.Cert{{Id: 1, Owner: 0}}, nil, make([]impl.Sign, 41), 100, 10, nil}, impl.ErrRange},
		{signing{append(list, list[0]), nil, make([]impl.Sign, 41), 100, 10, nil}, impl.ErrTaken},
		{signing{list, nil, make([]impl.Sign, 41), 100, 10, nil}, impl.ErrMany},
		{signing{list, nil, withSign(full, 39, impl.Sign{Cert: 100}), 100, 10, nil}, impl.ErrRange},
		{signing{list, nil, withSign(full, 39, impl.Sign{Cert: 1}), 100, 10, nil}, impl.ErrForm},
		{signing{list, nil, full, 3, 10, nil}, impl.ErrNone},
		{signing{list, []int64{3}, full, 3, 10, nil}, impl.ErrNone},
		{signing{list, nil, full, 1, 10, nil}, impl.ErrRange},
		{signing{list, nil, full, 1, -1, nil}, impl.ErrRange},
		{signing{list, []int64{1}, full, 1, math.MinInt64, nil}, impl.ErrRange},
		{signing{list, nil, full, 1, 3, someBytes(33)}, impl.ErrForm},
		{signing{list, []int64{2}, full, 1, 3, digestOf(1)}, impl.ErrSign},
		{signing{list, []int64{1}, full, 1, 3, digestOf(1)}, impl.ErrMany},
		{signing{list, nil, full, 1, 2, digestOf(1)}, impl.ErrMany},
		{signing{list, nil, full[:39], 1, 2, digestOf(1)}, impl.OK},
	}
	for i, r := range rows {
		got := r.x.ask()
		sameCode(t, fmt.Sprintf("row %d", i), got.Code, r.code)
		sameSigns(t, fmt.Sprintf("row %d", i), got, r.x.byHand())
	}
}

func placesAsked(n int) []int64 {
	last := int64(n) - 1
	return []int64{math.MinInt64, math.MinInt64 + 1, -int64(n), -1, 0, 1, last, last + 1, last + 2, 40, 41, 255, 256, 1 << 32, 1<<32 + last, math.MaxInt64}
}

func TestCheckSign(t *testing.T) {
	for _, n := range []int{0, 1, 2, 39, 40, 41} {
		signs := someSigns(n)
		for _, place := range placesAsked(n) {
			for _, id := range idsAsked() {
				for _, digest := range append(lists(0, 31, 32, 33), nil, digestOf(0), digestOf(1), digestOf(n-1)) {
					name := fmt.Sprintf("CheckSign of %d, place %d, id %d, %x", n, place, id, digest)
					sameBool(t, name, impl.CheckSign(signs, place, id, digest), checkByHand(signs, place, id, digest))
				}
			}
		}
	}
}

func TestP13CertificateIsReadBack(t *testing.T) {
	for id := int64(1); id <= 99; id++ {
		for owner := int64(1); owner <= 9; owner++ {
			for _, until := range goodUntils() {
				c := impl.Cert{Id: id, Owner: owner, Until: until}
				packed := impl.PackCert(c)
				sameList(t, fmt.Sprintf("PackCert of %+v", c), packed, impl.OK, certByHand(c))
				sameCert(t, fmt.Sprintf("UnpackCert of %x", packed.Bytes), impl.UnpackCert(packed.Bytes), impl.CertResult{Cert: c})
			}
		}
	}
	for until := range int64(10000) {
		c := impl.Cert{Id: 1 + until%99, Owner: 1 + until%9, Until: until}
		sameCert(t, fmt.Sprintf("%+v", c), impl.UnpackCert(impl.PackCert(c).Bytes), impl.CertResult{Cert: c})
	}
}

func TestP13BytesThatAreReadAreItsOwn(t *testing.T) {
	// Whatever bytes are read as a certificate are those of it.
	visitAll([]byte{0, 1, 9, 10, 39, 15, 16, 99, 100, 255}, 5, func(data []byte) {
		read := impl.UnpackCert(data)
		if read.Code == impl.OK {
			sameList(t, fmt.Sprintf("PackCert of what %x tells", data), impl.PackCert(read.Cert), impl.OK, data)
			return
		}
		sameCert(t, fmt.Sprintf("UnpackCert of %x", data), read, unpackCertByHand(data))
	})
}

func TestP13CertificateIsFoundByItsNumber(t *testing.T) {
	for n := range 9 {
		for _, whole := range [][]impl.Cert{someCerts(8), certsOfEdges()} {
			list := whole[:n]
			for _, c := range list {
				sameCert(t, fmt.Sprintf("LookCert of %d", c.Id), impl.LookCert(list, c.Id), impl.CertResult{Cert: c})
			}
			for _, c := range whole[n:] {
				sameCert(t, fmt.Sprintf("LookCert of %d ahead of it", c.Id), impl.LookCert(list, c.Id), impl.CertResult{Code: impl.ErrNone})
			}
			// An Owner, an Until and a place are no numbers of it.
			for _, id := range []int64{-1, 0, 9998, 9999, 300, 256} {
				sameCert(t, fmt.Sprintf("LookCert of %d", id), impl.LookCert(list, id), impl.CertResult{Code: impl.ErrNone})
			}
			turned := slices.Clone(list)
			slices.Reverse(turned)
			for _, c := range list {
				sameCert(t, fmt.Sprintf("LookCert of %d from behind", c.Id), impl.LookCert(turned, c.Id), impl.CertResult{Cert: c})
			}
		}
	}
}

// leaks are lists in which id stands or does not stand.
func leaks(id int64) map[string][]int64 {
	return map[string][]int64{
		"nothing":             nil,
		"an empty list":       {},
		"it alone":            {id},
		"it first":            {id, 77, 78},
		"it last":             {77, 78, id},
		"it in between":       {77, id, 78},
		"it twice":            {id, 77, id},
		"others":              {77, 78},
		"no certificate's":    {0, -1, 100, id + 256, id - 256, -id, math.MinInt64, math.MaxInt64},
		"it behind nobody's":  {0, -1, 100, math.MinInt64, math.MaxInt64, id},
		"it behind 300 other": append(make([]int64, 300), id),
		"300 others":          make([]int64, 300),
	}
}

func TestP13WhoSignsOwnsItOrItsKeyIsLeaked(t *testing.T) {
	list := certsOfEdges()
	for _, n := range []int{0, 1, 39} {
		signs := someSigns(n)
		for _, c := range list {
			for by := range int64(10) {
				for name, leaked := range leaks(c.Id) {
					name = fmt.Sprintf("%d of %d, by %d, leaked %s", c.Id, c.Owner, by, name)
					got := signing{list, leaked, signs, c.Id, by, digestOf(7)}.ask()
					if by != c.Owner && !slices.Contains(leaked, c.Id) {
						sameSigns(t, name, got, impl.SignsResult{Code: impl.ErrSign})
						continue
					}
					sameSigns(t, name, got, impl.SignsResult{Place: int64(n), Signs: append(someSigns(n), impl.Sign{Cert: c.Id, By: by, Digest: digestOf(7)})})
				}
			}
		}
	}
	// Whoever owns another certificate does not own this one, and what is leaked of another one is not leaked of this one.
	for _, a := range list {
		for _, b := range list {
			got := signing{list, []int64{b.Id}, nil, a.Id, b.Owner, digestOf(7)}.ask()
			sameCode(t, fmt.Sprintf("%+v by the owner of %+v, which is leaked", a, b), got.Code, when(a.Owner != b.Owner && a.Id != b.Id, impl.ErrSign))
		}
	}
}

func TestP13WhatIsSignedIsFoundAndNothingIsLost(t *testing.T) {
	list := certsOfEdges()
	var signs, all []impl.Sign
	for i := range 40 {
		c := list[i*5%8]
		x := signing{list, nil, signs, c.Id, c.Owner, digestOf(i / 3)}
		got := x.ask()
		all = append(all, impl.Sign{Cert: c.Id, By: c.Owner, Digest: digestOf(i / 3)})
		sameSigns(t, fmt.Sprintf("signature %d", i), got, impl.SignsResult{Place: int64(i), Signs: all})
		sameCode(t, "SignsFault behind it", impl.SignsFault(got.Signs), impl.OK)
		sameBool(t, fmt.Sprintf("signature %d ahead of it", i), impl.CheckSign(signs, int64(i), c.Id, digestOf(i/3)), false)
		signs = got.Signs
		for at, s := range all {
			sameBool(t, fmt.Sprintf("signature %d behind %d", at, i), impl.CheckSign(signs, int64(at), s.Cert, s.Digest), true)
		}
	}
	for _, c := range list {
		sameSigns(t, "one more than there may be", signing{list, []int64{c.Id}, signs, c.Id, c.Owner, digestOf(0)}.ask(), impl.SignsResult{Code: impl.ErrMany})
	}
}

func TestP13FoundAtItsPlaceAlone(t *testing.T) {
	for _, n := range []int{1, 2, 8, 40} {
		signs := someSigns(n)
		for at, s := range signs {
			for place := int64(-3); place < int64(n)+3; place++ {
				for other := range signs {
					// Cert and Digest of one signature, asked for at the place of another.
					name := fmt.Sprintf("%d of %d: asked at %d with Digest %d", at, n, place, other)
					sameBool(t, name, impl.CheckSign(signs, place, s.Cert, digestOf(other)), place == int64(at) && at == other)
				}
			}
			for id := int64(-1); id < 102; id++ {
				sameBool(t, fmt.Sprintf("%d of %d: asked of %d", at, n, id), impl.CheckSign(signs, int64(at), id, s.Digest), id == s.Cert)
			}
		}
	}
}

func TestP13FoundWithItsDigestAlone(t *testing.T) {
	list := certsOfEdges()
	digest := someBytes(32)
	first := signing{list, nil, someSigns(3), 99, 1, digest}.ask()
	signs := first.Signs
	sameBool(t, "with its Digest", impl.CheckSign(signs, 3, 99, someBytes(32)), true)
	for bit := range 256 {
		sameBool(t, "a Digest changed at one bit", impl.CheckSign(signs, 3, 99, changed(digest, bit)), false)
	}
	for at := range 32 {
		for b := range 256 {
			other := bytes.Clone(digest)
			other[at] = byte(b)
			sameBool(t, "a Digest changed at one byte", impl.CheckSign(signs, 3, 99, other), other[at] == digest[at])
		}
	}
	for n := range 32 {
		sameBool(t, "a Digest that is cut", impl.CheckSign(signs, 3, 99, digest[:n]), false)
		sameBool(t, "a Digest that is cut ahead", impl.CheckSign(signs, 3, 99, digest[n+1:]), false)
	}
	for _, n := range []int{1, 2, 32, 224, 256} {
		sameBool(t, "a Digest that is lengthened", impl.CheckSign(signs, 3, 99, append(bytes.Clone(digest), make([]byte, n)...)), false)
		sameBool(t, "a Digest that is lengthened by itself", impl.CheckSign(signs, 3, 99, append(bytes.Clone(digest), someBytes(n)...)), false)
	}
	// One with zeros at its end is not one that is cut there.
	zeros := make([]byte, 32)
	second := signing{list, nil, signs, 99, 1, zeros}.ask()
	for n := range 40 {
		sameBool(t, fmt.Sprintf("%d zeros", n), impl.CheckSign(second.Signs, 4, 99, make([]byte, n)), n == 32)
	}
}

func TestP13TheSameGivenTwiceStandsTwice(t *testing.T) {
	list := certsOfEdges()
	x := signing{list, []int64{50}, nil, 50, 5, digestOf(1)}
	for i := range int64(40) {
		// Who gives it does not count for what is found, but is told.
		x.by = []int64{5, 5, 0, 9, 5}[i%5]
		got := x.ask()
		sameCode(t, "given once more", got.Code, impl.OK)
		if got.Place != i || int64(len(got.Signs)) != i+1 || got.Signs[i].By != x.by {
			t.Errorf("given for the %d. time: %+v", i, got)
		}
		x.signs = got.Signs
		for place := int64(-1); place < i+3; place++ {
			sameBool(t, fmt.Sprintf("found at %d of %d", place, i+1), impl.CheckSign(x.signs, place, 50, digestOf(1)), place >= 0 && place <= i)
		}
	}
}

func TestP13SignedByALeakedKeyIsFoundAsAnyOther(t *testing.T) {
	list := certsOfEdges()
	for by := range int64(10) {
		got := signing{list, []int64{4}, someSigns(2), 4, by, digestOf(5)}.ask()
		sameSigns(t, fmt.Sprintf("leaked, by %d", by), got, impl.SignsResult{Place: 2, Signs: append(someSigns(2), impl.Sign{Cert: 4, By: by, Digest: digestOf(5)})})
		sameBool(t, fmt.Sprintf("leaked, by %d", by), impl.CheckSign(got.Signs, 2, 4, digestOf(5)), true)
	}
}

// roomyCerts and the like have room behind them that must stay as it is.
func roomyCerts(list []impl.Cert) []impl.Cert {
	return append(slices.Clone(list), impl.Cert{Id: 77}, impl.Cert{Id: 78})[:len(list)]
}

func staysCerts(list []impl.Cert, was []impl.Cert) bool {
	return slices.Equal(list[:len(was)+2], append(slices.Clone(was), impl.Cert{Id: 77}, impl.Cert{Id: 78}))
}

func roomySigns(signs []impl.Sign) []impl.Sign {
	out := cloneSigns(signs)
	for i := range out {
		out[i].Digest = roomyFor(out[i].Digest)
	}
	return append(out, impl.Sign{Cert: 77}, impl.Sign{Cert: 78})[:len(signs)]
}

func staysSigns(signs []impl.Sign, was []impl.Sign) bool {
	behind := []impl.Sign{{Cert: 77}, {Cert: 78}}
	if !alikeSigns(signs[:len(was)+2], slices.Concat(was, behind)) {
		return false
	}
	for i, s := range was {
		if !stays(signs[i].Digest, s.Digest) {
			return false
		}
	}
	return true
}

func staysNumbers(list []int64, was []int64) bool {
	return slices.Equal(list[:len(was)+4], append(slices.Clone(was), 77, 78, 79, 80))
}

func wrongSignings() []signing {
	list := certsOfEdges()
	return []signing{
		{},
		{someCerts(9), []int64{1}, someSigns(41), 1, 1, someBytes(33)},
		{list, []int64{1}, someSigns(40), 1, 9, digestOf(1)},
		{list, []int64{1}, someSigns(39), 7, 9, digestOf(1)},
		{list, []int64{2}, someSigns(3), 1, 8, digestOf(1)},
		{list, nil, someSigns(3), 1, 10, digestOf(1)},
		{list, nil, someSigns(3), 1, 9, someBytes(31)},
		{append(list[:7:7], list[0]), nil, someSigns(3), 1, 9, digestOf(1)},
		{list, nil, withSign(someSigns(3), 1, impl.Sign{Cert: 1, By: 1, Digest: someBytes(33)}), 1, 9, digestOf(1)},
		{list, nil, withSign(someSigns(3), 2, impl.Sign{Cert: 0, By: 1}), 1, 9, digestOf(1)},
	}
}

func goodSignings() []signing {
	list := certsOfEdges()
	return []signing{
		{list[:2], nil, nil, 1, 9, digestOf(1)},
		{list, nil, someSigns(1), 99, 1, digestOf(2)},
		{list, []int64{3, 98}, someSigns(7), 98, 0, digestOf(3)},
		{list, []int64{50, 50}, someSigns(39), 50, 6, make([]byte, 32)},
	}
}

func TestP1CertArgumentsStay(t *testing.T) {
	for _, was := range append(wrongSignings(), goodSignings()...) {
		x := signing{roomyCerts(was.list), roomyState(was.leaked), roomySigns(was.signs), was.id, was.by, roomyFor(was.digest)}
		impl.CertsFault(x.list)
		impl.SignsFault(x.signs)
		for _, id := range idsAsked() {
			impl.LookCert(x.list, id)
		}
		x.ask()
		for _, place := range placesAsked(len(was.signs)) {
			impl.CheckSign(x.signs, place, x.id, x.digest)
		}
		impl.UnpackCert(x.digest)
		if !staysCerts(x.list, was.list) || !staysNumbers(x.leaked, was.leaked) || !staysSigns(x.signs, was.signs) || !stays(x.digest, was.digest) {
			t.Errorf("an argument is changed: %+v", was)
		}
	}
	for _, c := range append(certsOfEdges(), impl.Cert{}, impl.Cert{Id: 1, Owner: 1, Until: 10000}) {
		data := roomyFor(certByHand(c))
		impl.UnpackCert(data)
		if !stays(data, certByHand(c)) {
			t.Errorf("bytes are changed: %+v", c)
		}
	}
}

func bytesOfSigns(signs []impl.Sign) [][]byte {
	var all [][]byte
	for _, s := range signs {
		all = append(all, s.Digest)
	}
	return all
}

// spoilSigns spoils a list to the end of its room, and what it points at.
func spoilSigns(signs []impl.Sign) {
	for _, s := range signs {
		spoil(s.Digest)
	}
	signs = signs[:cap(signs)]
	for i := range signs {
		signs[i] = impl.Sign{Cert: -1, By: -1, Digest: []byte{1}}
	}
}

func TestP1SignsAreNewMemory(t *testing.T) {
	for i := range goodSignings() {
		name, x := fmt.Sprintf("signing %d", i), goodSignings()[i]
		want := x.clone().byHand()
		first, second := x.ask(), x.ask()
		sameSigns(t, name, first, want)
		sharesNone(t, name, slices.Concat(bytesOfSigns(first.Signs), bytesOfSigns(second.Signs), bytesOfSigns(x.signs), [][]byte{x.digest}))
		// What is put behind one answer is not put behind another one.
		third := signing{x.list, x.leaked, first.Signs, x.id, x.by, digestOf(8)}.ask()
		fourth := signing{x.list, x.leaked, first.Signs, x.id, x.by, digestOf(9)}.ask()
		sharesNone(t, name, slices.Concat(bytesOfSigns(first.Signs), bytesOfSigns(third.Signs), bytesOfSigns(fourth.Signs)))
		if len(first.Signs) < 40 {
			sameBool(t, name+": the one", impl.CheckSign(third.Signs, want.Place+1, x.id, digestOf(8)), true)
			sameBool(t, name+": the other", impl.CheckSign(fourth.Signs, want.Place+1, x.id, digestOf(9)), true)
		}
		spoilSigns(first.Signs)
		sameSigns(t, name+" told ahead", second, want)
		sameSigns(t, name+" told behind", x.ask(), want)
		spoilSigns(x.signs)
		spoil(x.digest)
		spoilNumbers(x.leaked)
		for at := range x.list {
			x.list[at] = impl.Cert{}
		}
		sameSigns(t, name+" of what is changed behind it", second, want)
		sameSigns(t, name+" asked once more", goodSignings()[i].ask(), want)
	}
}

func TestP1CertsAreNewMemory(t *testing.T) {
	for _, c := range certsOfEdges() {
		first, second := impl.PackCert(c), impl.PackCert(c)
		spoil(first.Bytes)
		sameList(t, "PackCert told ahead", second, impl.OK, certByHand(c))
		sameList(t, "PackCert told behind", impl.PackCert(c), impl.OK, certByHand(c))
	}
}

func TestP1SignsOfOneMemory(t *testing.T) {
	// All digests lie in one memory, and the list is a piece of a longer one.
	whole := someBytes(40)
	list := certsOfEdges()
	signs := []impl.Sign{{Cert: 1, By: 9, Digest: whole[:32]}, {Cert: 2, By: 1, Digest: whole[:32]}, {Cert: 3, By: 9, Digest: whole[4:36]}, {Cert: 4, By: 8, Digest: whole[8:]}}
	was := cloneSigns(signs)
	x := signing{list, nil, signs[:3], 1, 9, whole[:32]}
	want := x.clone().byHand()
	got := x.ask()
	sameSigns(t, "of one memory", got, want)
	sharesNone(t, "of one memory", append(bytesOfSigns(got.Signs), whole))
	if !alikeSigns(signs, was) || !bytes.Equal(whole, someBytes(40)) {
		t.Error("that memory is changed")
	}
	for place := range int64(4) {
		for id := range int64(6) {
			for _, digest := range [][]byte{whole[:32], whole[4:36], whole[8:]} {
				sameBool(t, "CheckSign of one memory", impl.CheckSign(signs, place, id, digest), checkByHand(was, place, id, digest))
			}
		}
	}
}

func TestP1CertsHangOnArgumentsAlone(t *testing.T) {
	list, signs := certsOfEdges(), someSigns(5)
	ask := func() {
		t.Helper()
		sameCode(t, "CertsFault", impl.CertsFault(list), impl.OK)
		sameCode(t, "SignsFault", impl.SignsFault(signs), impl.OK)
		sameCert(t, "LookCert", impl.LookCert(list, 50), impl.CertResult{Cert: list[5]})
		sameCert(t, "LookCert of none", impl.LookCert(list, 51), impl.CertResult{Code: impl.ErrNone})
		sameList(t, "PackCert", impl.PackCert(list[0]), impl.OK, certByHand(list[0]))
		sameCert(t, "UnpackCert", impl.UnpackCert(certByHand(list[1])), impl.CertResult{Cert: list[1]})
		sameSigns(t, "SignWith by the owner", signing{list, nil, signs, 50, 5, digestOf(1)}.ask(), signing{list, nil, signs, 50, 5, digestOf(1)}.byHand())
		sameSigns(t, "SignWith by another", signing{list, nil, signs, 50, 6, digestOf(1)}.ask(), impl.SignsResult{Code: impl.ErrSign})
		sameBool(t, "CheckSign", impl.CheckSign(signs, 4, 29, digestOf(4)), true)
		sameBool(t, "CheckSign of what is not there", impl.CheckSign(signs, 5, 50, digestOf(1)), false)
	}
	ask()
	// What is refused in between leaves nothing behind, and neither does what is leaked or signed.
	for _, x := range append(wrongSignings(), goodSignings()...) {
		x.ask()
		impl.CertsFault(x.list)
		impl.SignsFault(x.signs)
		impl.LookCert(x.list, 50)
		impl.CheckSign(x.signs, 4, 29, x.digest)
		signing{list, []int64{50}, signs, 50, 6, digestOf(1)}.ask()
		ask()
	}
}

func TestP1CertsAtOnce(t *testing.T) {
	// What is asked at the same time is answered as if it were asked alone.
	type told struct {
		x     signing
		got   impl.SignsResult
		found bool
	}
	var all []signing
	for range 8 {
		all = append(all, append(wrongSignings(), goodSignings()...)...)
	}
	out := make(chan told, len(all))
	for _, x := range all {
		go func() {
			got := x.ask()
			out <- told{x, got, impl.CheckSign(got.Signs, got.Place, x.id, x.digest)}
		}()
	}
	for range all {
		x := <-out
		sameSigns(t, "at once", x.got, x.x.byHand())
		sameBool(t, "found at once", x.found, x.got.Code == impl.OK)
	}
}

func TestP1CertsOfNothing(t *testing.T) {
	// Nothing, be it nil or empty, is one value.
	one := []impl.Cert{{Id: 1, Owner: 2, Until: 300}}
	for _, none := range [][]impl.Cert{nil, {}} {
		sameCode(t, "CertsFault of none", impl.CertsFault(none), impl.OK)
		for _, id := range idsAsked() {
			sameCert(t, "LookCert among none", impl.LookCert(none, id), impl.CertResult{Code: impl.ErrNone})
		}
		sameSigns(t, "SignWith of none", signing{none, []int64{1}, nil, 1, 0, digestOf(1)}.ask(), impl.SignsResult{Code: impl.ErrNone})
	}
	for _, none := range [][]impl.Sign{nil, {}} {
		sameCode(t, "SignsFault of none", impl.SignsFault(none), impl.OK)
		for _, place := range placesAsked(0) {
			sameBool(t, "CheckSign of none", impl.CheckSign(none, place, 1, digestOf(1)), false)
			sameBool(t, "CheckSign of nothing", impl.CheckSign(none, place, 0, nil), false)
		}
		for _, leaked := range [][]int64{nil, {}} {
			sameSigns(t, "SignWith of no signatures", signing{one, leaked, none, 1, 2, digestOf(1)}.ask(), impl.SignsResult{Signs: []impl.Sign{{Cert: 1, By: 2, Digest: digestOf(1)}}})
			sameSigns(t, "SignWith of nothing leaked", signing{one, leaked, none, 1, 0, digestOf(1)}.ask(), impl.SignsResult{Code: impl.ErrSign})
		}
	}
	for _, none := range [][]byte{nil, {}} {
		sameCert(t, "UnpackCert of nothing", impl.UnpackCert(none), impl.CertResult{Code: impl.ErrText})
		sameSigns(t, "SignWith of no digest", signing{one, nil, nil, 1, 2, none}.ask(), impl.SignsResult{Code: impl.ErrForm})
		sameCode(t, "SignsFault of no digest", impl.SignsFault([]impl.Sign{{Cert: 1, By: 2, Digest: none}}), impl.ErrForm)
		sameBool(t, "CheckSign of no digest", impl.CheckSign([]impl.Sign{{Cert: 1, By: 2, Digest: none}}, 0, 1, none), false)
		sameBool(t, "CheckSign with no digest", impl.CheckSign(someSigns(1), 0, 1, none), false)
	}
	sameList(t, "PackCert of the zero value", impl.PackCert(impl.Cert{}), impl.ErrRange, nil)
	sameSigns(t, "SignWith of nothing at all", signing{}.ask(), impl.SignsResult{Code: impl.ErrNone})
}
