package tests

import (
	"bytes"
	"crypto/sha256"
	"fmt"
	"math"
	"slices"
	"testing"

	"loop.example/g00375/impl"
)

// making is all that MakeAuth is asked with.
type making struct {
	exporter []byte
	role     int64
	context  []byte
	c        impl.Cert
	place    int64
}

func (m making) ask() impl.BytesResult {
	return impl.MakeAuth(m.exporter, m.role, m.context, m.c, m.place)
}

func (m making) askDigest() impl.BytesResult {
	return impl.AuthDigest(m.exporter, m.role, m.context, m.c)
}

func (m making) clone() making {
	m.exporter, m.context = bytes.Clone(m.exporter), bytes.Clone(m.context)
	return m
}

func codeOfAuthKey(exporter []byte, role int64) int64 {
	return firstCode(whenForm(len(exporter) != 32), whenRange(role != 1 && role != 2))
}

// authKeyByHand and the like are what the program's answers are held against.
func authKeyByHand(t *testing.T, exporter []byte, role int64, finish bool) []byte {
	t.Helper()
	labels := map[int64]string{1: "auth client context", 2: "auth server context"}
	if finish {
		labels = map[int64]string{1: "auth client finish", 2: "auth server finish"}
	}
	return exportByHand(t, exporter, labels[role], nil, 32)
}

func (m making) codeOfDigest() int64 {
	return firstCode(
		codeOfAuthKey(m.exporter, m.role),
		when(len(m.context) < 1 || len(m.context) > 20, impl.ErrMany),
		whenRange(hasNoCert(m.c)),
	)
}

func (m making) digestByHand(t *testing.T) impl.BytesResult {
	t.Helper()
	code := m.codeOfDigest()
	if code != impl.OK {
		return impl.BytesResult{Code: code}
	}
	key := authKeyByHand(t, m.exporter, m.role, false)
	digest := sha256.Sum256(slices.Concat(key, []byte{byte(len(m.context))}, m.context, certByHand(m.c)))
	return impl.BytesResult{Bytes: digest[:]}
}

// macByHand is the Mac of one that has no fault.
func (m making) macByHand(t *testing.T) []byte {
	t.Helper()
	return macByLibrary(authKeyByHand(t, m.exporter, m.role, true), append(m.digestByHand(t).Bytes, byte(m.place)))
}

func (m making) byHand(t *testing.T) impl.BytesResult {
	t.Helper()
	code := firstCode(m.codeOfDigest(), whenRange(m.place < 0 || m.place > 39))
	if code != impl.OK {
		return impl.BytesResult{Code: code}
	}
	return impl.BytesResult{Bytes: authBytes(m.context, certByHand(m.c), []byte{byte(m.place)}, m.macByHand(t))}
}

func authBytes(blocks ...[]byte) []byte {
	return blocksByHand(blocks)
}

func readAuthByHand(data []byte) impl.AuthResult {
	none := impl.AuthResult{Code: impl.ErrText}
	parts := unpackBlocksByHand(data)
	if parts.Code != impl.OK || len(parts.Blocks) != 4 {
		return none
	}
	b := parts.Blocks
	c := unpackCertByHand(b[1])
	if len(b[0]) < 1 || len(b[0]) > 20 || c.Code != impl.OK || len(b[2]) != 1 || len(b[3]) != 32 {
		return none
	}
	return impl.AuthResult{Auth: impl.Auth{Context: b[0], Cert: c.Cert, Place: int64(b[2][0]), Mac: b[3]}}
}

// checking is all that CheckAuth is asked with.
type checking struct {
	exporter []byte
	role     int64
	certs    []impl.Cert
	signs    []impl.Sign
	now      int64
	data     []byte
}

func (x checking) ask() impl.AuthResult {
	return impl.CheckAuth(x.exporter, x.role, x.certs, x.signs, x.now, x.data)
}

func (x checking) clone() checking {
	return checking{bytes.Clone(x.exporter), x.role, slices.Clone(x.certs), cloneSigns(x.signs), x.now, bytes.Clone(x.data)}
}

func (x checking) byHand(t *testing.T) impl.AuthResult {
	t.Helper()
	read := readAuthByHand(x.data)
	code := firstCode(
		codeOfAuthKey(x.exporter, x.role),
		certsFaultByHand(x.certs),
		signsFaultByHand(x.signs),
		whenRange(x.now < 0 || x.now > 9999),
		read.Code,
		when(!slices.Contains(x.certs, read.Auth.Cert), impl.ErrNone),
		when(read.Auth.Cert.Until < x.now, impl.ErrOld),
	)
	if code != impl.OK {
		return impl.AuthResult{Code: code}
	}
	a := read.Auth
	m := making{x.exporter, x.role, a.Context, a.Cert, a.Place}
	if !checkByHand(x.signs, a.Place, a.Cert.Id, m.digestByHand(t).Bytes) || !bytes.Equal(a.Mac, m.macByHand(t)) {
		return impl.AuthResult{Code: impl.ErrSign}
	}
	return read
}

func alikeAuths(a impl.Auth, b impl.Auth) bool {
	return bytes.Equal(a.Context, b.Context) && a.Cert == b.Cert && a.Place == b.Place && bytes.Equal(a.Mac, b.Mac)
}

func sameAuth(t *testing.T, name string, got impl.AuthResult, want impl.AuthResult) {
	t.Helper()
	if got.Code != want.Code || !alikeAuths(got.Auth, want.Auth) {
		t.Errorf("%s: %+v, want %+v", name, got, want)
	}
}

func noAuth(t *testing.T, name string, got impl.AuthResult, code int64) {
	t.Helper()
	sameAuth(t, name, got, impl.AuthResult{Code: code})
}

// signedFor has signatures of others, and at the place of m the one that m
// speaks of.
func signedFor(t *testing.T, m making, n int) []impl.Sign {
	t.Helper()
	return withSign(someSigns(n), int(m.place), impl.Sign{Cert: m.c.Id, By: m.c.Owner, Digest: m.digestByHand(t).Bytes})
}

// believing is what m is believed by: its certificate is there, and what it
// speaks of is signed.
func believing(t *testing.T, m making) checking {
	t.Helper()
	certs := []impl.Cert{{Id: m.c.Id%99 + 1, Owner: 7, Until: 9999}, m.c}
	return checking{m.exporter, m.role, certs, signedFor(t, m, int(m.place)+1), m.c.Until, m.byHand(t).Bytes}
}

func (a making) auth(t *testing.T) impl.AuthResult {
	t.Helper()
	return impl.AuthResult{Auth: impl.Auth{Context: a.context, Cert: a.c, Place: a.place, Mac: a.macByHand(t)}}
}

// exportersOfAuths and the like have the edges, inside the bounds and outside
// them.
func exportersOfAuths() [][]byte {
	return append(lists(0, 1, 31, 32, 33, 64, 65, 288, 601), nil, make([]byte, 31), make([]byte, 32), make([]byte, 33), rising(32))
}

func rolesAsked() []int64 {
	return []int64{-2, -1, 0, 1, 2, 3, 4, 255, 256, 257, 258, -255, -254, 1<<32 + 1, 1<<32 + 2, 1 << 62, math.MinInt64, math.MinInt64 + 1, math.MinInt64 + 2, math.MaxInt64 - 1, math.MaxInt64}
}

func contextsAsked() [][]byte {
	return append(lists(0, 1, 2, 19, 20, 21, 22, 255, 256, 257, 276, 601), nil, make([]byte, 1), make([]byte, 20), make([]byte, 21))
}

func certsAsked() []impl.Cert {
	return []impl.Cert{{Id: 1, Owner: 2, Until: 300}, {Id: 1, Owner: 1, Until: 0}, {Id: 99, Owner: 9, Until: 9999},
		{}, {Id: 0, Owner: 1, Until: 1}, {Id: 100, Owner: 1, Until: 1}, {Id: 257, Owner: 1, Until: 1}, {Id: 1, Owner: 0, Until: 1}, {Id: 1, Owner: 10, Until: 1},
		{Id: 1, Owner: 257, Until: 1}, {Id: 1, Owner: 1, Until: -1}, {Id: 1, Owner: 1, Until: 10000}, {Id: 1, Owner: 1, Until: 65536},
		{Id: math.MinInt64, Owner: 1, Until: 1}, {Id: 1, Owner: math.MaxInt64, Until: 1}, {Id: 1, Owner: 1, Until: math.MinInt64}}
}

func placesOfAuths() []int64 {
	return []int64{-2, -1, 0, 1, 2, 38, 39, 40, 41, 128, 255, 256, 257, 295, -256, -255, 1 << 32, 1<<32 + 1, 1 << 53, math.MinInt64, math.MinInt64 + 1, math.MaxInt64 - 1, math.MaxInt64}
}

func timesAsked() []int64 {
	return []int64{-2, -1, 0, 1, 299, 300, 301, 9998, 9999, 10000, 10001, 65536, 65836, -65536, 1 << 32, 1<<32 + 300, math.MinInt64, math.MinInt64 + 1, math.MaxInt64}
}

// makingKnown is the one of the given test, goodMakings have the edges as well.
func makingKnown() making {
	return making{make([]byte, 32), 2, []byte{7}, impl.Cert{Id: 1, Owner: 2, Until: 300}, 0}
}

func goodMakings() []making {
	return []making{
		makingKnown(),
		{rising(32), 1, make([]byte, 1), impl.Cert{Id: 1, Owner: 1, Until: 0}, 1},
		{someBytes(32), 2, someBytes(20), impl.Cert{Id: 99, Owner: 9, Until: 9999}, 39},
		{bytes.Repeat([]byte{255}, 32), 1, bytes.Repeat([]byte{255}, 20), impl.Cert{Id: 50, Owner: 5, Until: 256}, 20},
	}
}

func wrongMakings() []making {
	m := makingKnown()
	var list []making
	add := func(change func(m *making)) {
		other := m.clone()
		change(&other)
		list = append(list, other)
	}
	add(func(m *making) { m.exporter = nil })
	add(func(m *making) { m.exporter = someBytes(33) })
	add(func(m *making) { m.role = 0 })
	add(func(m *making) { m.role = 3 })
	add(func(m *making) { m.context = nil })
	add(func(m *making) { m.context = someBytes(21) })
	add(func(m *making) { m.c.Id = 100 })
	add(func(m *making) { m.c = impl.Cert{} })
	add(func(m *making) { m.place = -1 })
	add(func(m *making) { m.place = 40 })
	return list
}

func TestAuthConstants(t *testing.T) {
	if impl.RoleClient != 1 || impl.RoleServer != 2 || impl.MaxContext != 20 {
		t.Error(impl.RoleClient, impl.RoleServer, impl.MaxContext)
	}
}

func TestAuthKeysKnown(t *testing.T) {
	// Reckoned by Python's hmac: of zeros, of bytes 0 to 31, and of an exporter of RFC 8448.
	rows := []struct{ exporter, clientContext, clientFinish, serverContext, serverFinish, bind string }{
		{"0000000000000000000000000000000000000000000000000000000000000000",
			"f045b7688b02877f8246c7c37a9683a98c868fd181fbc4e63e050439954fdafe", "7735033c5936acd3c25612cfbbd42a1b5ffd15f9f8fc87970aae15dc07a416b3",
			"1c25dcaaa3d5bb32eba8815ed0fe7dd626739fe9c0c1bc7edb4330d8df470f0b", "6f5d9295cfd559069dc5e90555a2f04cbfdec065b87b9588e365df73c1ba57f7",
			"66c0b0fb9e00e57caab9266026994d0995fb785c0a863a9d87f057ae71eab43d"},
		{"000102030405060708090a0b0c0d0e0f101112131415161718191a1b1c1d1e1f",
			"05f006337c38e69d79844dc3ca257fd2645745db2c0c0ceabd3eca66a1f9467c", "f6baf24f87d276b4803bf19f9ec5f8c754cfbaea708b0d2266fb2c307b9dbf5c",
			"9024e44a687e4459795579da1e844eda9f9b2a9539825a993287ca5c93940295", "7ea7a5047826e1eb8b87adef03507014dc695aa34a1a0624d3f239a3c2b391c0",
			"b35a57f325376cbb16afac17c03ef3217eee62988096ea59e3a3bf33421e8489"},
		{"fe22f881176eda18eb8f44529e6792c50c9a3f89452f68d8ae311b4309d3cf50",
			"db43313637770585ff09032e3e044c4092647d8d5e39f8ce4465030f9bce959d", "94250e73d989030dc954aa3c4adffe739d47eca4ecf189bfcf89a1c3cfcf1ec3",
			"28fc14a1bbd82a7f52d2ae98c2519d6618aee33849a3c555921a53a7606168e3", "5512c8ccf91125f151c4aa3df4fc51e7b5410547805aa0d6f25c965d8e16ea67",
			"2f6adcf7b9de95d02b0c407be56166d89dda9afd9e8ff36ed5224b7451a1ab1e"},
	}
	for _, r := range rows {
		exporter := hexed(t, r.exporter)
		sameList(t, "client, context", impl.AuthKey(exporter, impl.RoleClient, false), impl.OK, hexed(t, r.clientContext))
		sameList(t, "client, finish", impl.AuthKey(exporter, impl.RoleClient, true), impl.OK, hexed(t, r.clientFinish))
		sameList(t, "server, context", impl.AuthKey(exporter, impl.RoleServer, false), impl.OK, hexed(t, r.serverContext))
		sameList(t, "server, finish", impl.AuthKey(exporter, impl.RoleServer, true), impl.OK, hexed(t, r.serverFinish))
		sameList(t, "BindOf", impl.BindOf(exporter), impl.OK, hexed(t, r.bind))
	}
}

func TestAuthsKnown(t *testing.T) {
	// Reckoned by Python's hmac and hashlib.
	rising, told := "000102030405060708090a0b0c0d0e0f101112131415161718191a1b1c1d1e1f", "fe22f881176eda18eb8f44529e6792c50c9a3f89452f68d8ae311b4309d3cf50"
	rows := []struct {
		exporter string
		role     int64
		context  string
		c        impl.Cert
		place    int64
		digest   string
		made     string
	}{
		{"0000000000000000000000000000000000000000000000000000000000000000", 2, "07", impl.Cert{Id: 1, Owner: 2, Until: 300}, 0,
			"c1cf6939803842586e53dff0464c7501cf356582601deeac37fe1e72cbc27e47",
			"0107040102012c0100200200dff64a2edf6580ab9a52506e4854c450f2365b1284cccab24b24ea83abd5"},
		{rising, 1, "07", impl.Cert{Id: 1, Owner: 2, Until: 300}, 0,
			"9ecf0ec9d5e03c5d58156cc73c5a5508ba37f7ce2ee98005af1228ae79987046",
			"0107040102012c010020769e5689cfc22edc4bb8c3477a9ae54983bdcbe227272d83e4ce40ea68219c15"},
		{rising, 2, "07", impl.Cert{Id: 1, Owner: 2, Until: 300}, 39,
			"17e3e6cc0288b7b946258da7f74b07068ea0b79ab2da51e843deed62fbc8d359",
			"0107040102012c0127207744ad8b2cf1d08e37b5e2402b40ec6196a95be7b34a88abc6667c6a498efecf"},
		{told, 1, "000102030405060708090a0b0c0d0e0f10111213", impl.Cert{Id: 99, Owner: 9, Until: 9999}, 39,
			"1384f86b973621ae525a6f20b80264712399809172e43df9f66206fc0be63c86",
			"14000102030405060708090a0b0c0d0e0f10111213046309270f012720767a8d667bb41e7660a917cd8d7751899d25bf12c0bb475e8b725c87463bd127"},
		{told, 2, "00", impl.Cert{Id: 1, Owner: 1, Until: 0}, 1,
			"bc434c6abe31b9d9db9fbfb9a872d311d2fb01f67ce7400a1637b2f309790768",
			"01000401010000010120d2e1f2b85caa61935c7e954c3dcee2b2ce821914140d0a393a8ee513a56159ee"},
	}
	for i, r := range rows {
		name := fmt.Sprintf("row %d", i)
		m := making{hexed(t, r.exporter), r.role, hexed(t, r.context), r.c, r.place}
		made := hexed(t, r.made)
		sameList(t, name+": AuthDigest", m.askDigest(), impl.OK, hexed(t, r.digest))
		sameList(t, name+": MakeAuth", m.ask(), impl.OK, made)
		want := impl.AuthResult{Auth: impl.Auth{Context: m.context, Cert: r.c, Place: r.place, Mac: made[len(made)-32:]}}
		sameAuth(t, name+": ReadAuth", impl.ReadAuth(made), want)
		signs := withSign(someSigns(40), int(r.place), impl.Sign{Cert: r.c.Id, By: r.c.Owner, Digest: hexed(t, r.digest)})
		sameAuth(t, name+": CheckAuth", impl.CheckAuth(m.exporter, r.role, []impl.Cert{r.c}, signs, r.c.Until, made), want)
	}
}

func TestAuthKey(t *testing.T) {
	for _, exporter := range exportersOfAuths() {
		for _, role := range rolesAsked() {
			for _, finish := range []bool{false, true} {
				code, want := codeOfAuthKey(exporter, role), []byte(nil)
				if code == impl.OK {
					want = authKeyByHand(t, exporter, role, finish)
				}
				sameList(t, fmt.Sprintf("AuthKey of %d bytes, role %d, finish %v", len(exporter), role, finish), impl.AuthKey(exporter, role, finish), code, want)
			}
		}
	}
	for n := range 70 {
		if n != 32 {
			sameList(t, "AuthKey of any length", impl.AuthKey(someBytes(n), 1, n%2 == 0), impl.ErrForm, nil)
		}
	}
}

func TestAuthDigest(t *testing.T) {
	for _, exporter := range exportersOfAuths() {
		for _, role := range rolesAsked() {
			for _, context := range contextsAsked() {
				for _, c := range certsAsked() {
					m := making{exporter, role, context, c, 0}
					want := m.digestByHand(t)
					sameList(t, fmt.Sprintf("AuthDigest of %+v", m), m.askDigest(), want.Code, want.Bytes)
				}
			}
		}
	}
}

func TestAuthDigestOfEachLength(t *testing.T) {
	for n := range 300 {
		m := makingKnown()
		m.context = someBytes(n)
		want := m.digestByHand(t)
		sameCode(t, fmt.Sprintf("a context of %d bytes", n), want.Code, when(n == 0 || n > 20, impl.ErrMany))
		sameList(t, fmt.Sprintf("AuthDigest, a context of %d bytes", n), m.askDigest(), want.Code, want.Bytes)
		made := m.byHand(t)
		sameList(t, fmt.Sprintf("MakeAuth, a context of %d bytes", n), m.ask(), made.Code, made.Bytes)
	}
}

func TestMakeAuth(t *testing.T) {
	exporters := [][]byte{nil, {}, someBytes(31), someBytes(32), make([]byte, 32), someBytes(33)}
	contexts := append(lists(0, 1, 20, 21), nil)
	for _, exporter := range exporters {
		for _, role := range rolesAsked() {
			for _, context := range contexts {
				for _, c := range certsAsked() {
					for _, place := range placesOfAuths() {
						m := making{exporter, role, context, c, place}
						want := m.byHand(t)
						sameList(t, fmt.Sprintf("MakeAuth of %+v", m), m.ask(), want.Code, want.Bytes)
					}
				}
			}
		}
	}
}

func TestMakeAuthOfEachCert(t *testing.T) {
	for _, id := range idsAsked() {
		for _, owner := range []int64{0, 1, 9, 10} {
			for _, until := range []int64{-1, 0, 255, 256, 9999, 10000} {
				m := makingKnown()
				m.c = impl.Cert{Id: id, Owner: owner, Until: until}
				want := m.byHand(t)
				sameList(t, fmt.Sprintf("MakeAuth of %+v", m.c), m.ask(), want.Code, want.Bytes)
			}
		}
	}
}

func TestMakeAuthCodesInOrder(t *testing.T) {
	// Each row has one wrong thing less than the one ahead.
	good := makingKnown()
	rows := []struct {
		m    making
		code int64
	}{
		{making{nil, 0, nil, impl.Cert{}, -1}, impl.ErrForm},
		{making{someBytes(33), 3, someBytes(21), impl.Cert{Id: 100}, 40}, impl.ErrForm},
		{making{good.exporter, 0, nil, impl.Cert{}, -1}, impl.ErrRange},
		{making{good.exporter, 3, someBytes(21), impl.Cert{Id: 100}, 40}, impl.ErrRange},
		{making{good.exporter, 1, nil, impl.Cert{}, -1}, impl.ErrMany},
		{making{good.exporter, 2, someBytes(21), impl.Cert{Id: 100}, 40}, impl.ErrMany},
		{making{good.exporter, 2, good.context, impl.Cert{}, -1}, impl.ErrRange},
		{making{good.exporter, 2, good.context, good.c, -1}, impl.ErrRange},
		{making{good.exporter, 2, good.context, good.c, 40}, impl.ErrRange},
		{making{good.exporter, 2, good.context, good.c, math.MinInt64}, impl.ErrRange},
		{making{good.exporter, 2, good.context, good.c, math.MaxInt64}, impl.ErrRange},
		{making{good.exporter, 2, good.context, good.c, 39}, impl.OK},
	}
	for i, r := range rows {
		want := r.m.byHand(t)
		sameCode(t, fmt.Sprintf("row %d", i), want.Code, r.code)
		sameList(t, fmt.Sprintf("row %d", i), r.m.ask(), r.code, want.Bytes)
		// A place is not asked for by the digest.
		own := r.m.digestByHand(t)
		sameList(t, fmt.Sprintf("AuthDigest of row %d", i), r.m.askDigest(), own.Code, own.Bytes)
	}
}

func TestReadAuthOfBlocks(t *testing.T) {
	contexts := append(lists(0, 1, 2, 19, 20, 21, 32, 119, 120), []byte{0})
	certs := [][]byte{{1, 2, 1, 44}, {1, 1, 0, 0}, {99, 9, 39, 15}, {}, {1}, {1, 2, 1}, {1, 2, 1, 44, 0}, {0, 2, 1, 44}, {100, 2, 1, 44}, {1, 0, 1, 44}, {1, 10, 1, 44}, {1, 2, 39, 16}, {1, 2, 255, 255}, make([]byte, 4)}
	places := [][]byte{{0}, {1}, {39}, {40}, {41}, {128}, {255}, {}, {0, 0}, {0, 39}, make([]byte, 32)}
	macs := lists(0, 1, 31, 32, 33, 64, 120)
	for _, context := range contexts {
		for _, c := range certs {
			for _, place := range places {
				for _, mac := range macs {
					data := authBytes(context, c, place, mac)
					sameAuth(t, fmt.Sprintf("ReadAuth of %x", data), impl.ReadAuth(data), readAuthByHand(data))
				}
			}
		}
	}
}

func TestReadAuthOfEachPlace(t *testing.T) {
	// Any byte is read as a place, but none of 40 and above is one that is signed.
	for place := range int64(256) {
		m := makingKnown()
		m.place = place
		mac := m.macByHand(t)
		data := authBytes(m.context, certByHand(m.c), []byte{byte(place)}, mac)
		sameAuth(t, fmt.Sprintf("ReadAuth, place %d", place), impl.ReadAuth(data), impl.AuthResult{Auth: impl.Auth{Context: m.context, Cert: m.c, Place: place, Mac: mac}})
		full := slices.Repeat([]impl.Sign{{Cert: m.c.Id, By: m.c.Owner, Digest: m.digestByHand(t).Bytes}}, 40)
		for _, n := range []int{0, 1, 20, 39, 40} {
			x := checking{m.exporter, m.role, []impl.Cert{m.c}, full[:n], 0, data}
			got := x.ask()
			sameCode(t, fmt.Sprintf("CheckAuth, place %d of %d", place, n), got.Code, when(place >= int64(n), impl.ErrSign))
			sameAuth(t, fmt.Sprintf("CheckAuth, place %d of %d", place, n), got, x.byHand(t))
		}
	}
}

func TestReadAuthOfOtherBlocks(t *testing.T) {
	c, place, mac := []byte{1, 2, 1, 44}, []byte{3}, someBytes(32)
	context := []byte{7, 8}
	none := map[string][][]byte{
		"nothing":                       nil,
		"one empty block":               {{}},
		"four empty blocks":             {{}, {}, {}, {}},
		"a context alone":               {context},
		"no mac":                        {context, c, place},
		"no place":                      {context, c, mac},
		"no certificate":                {context, place, mac},
		"no context":                    {c, place, mac},
		"an empty block behind":         {context, c, place, mac, {}},
		"an empty block ahead":          {{}, context, c, place, mac},
		"an empty block between":        {context, c, {}, place, mac},
		"a block more":                  {context, c, place, mac, mac},
		"a place more":                  {context, c, place, mac, place},
		"all twice":                     {context, c, place, mac, context, c, place, mac},
		"nine blocks":                   {context, c, place, mac, {}, {}, {}, {}, {}},
		"mac and place in turn":         {context, c, mac, place},
		"place and certificate in turn": {context, place, c, mac},
		"all in turn":                   {mac, place, c, context},
		"a mac as context":              {mac, c, place, mac},
		"an empty context":              {{}, c, place, mac},
		"context and certificate":       {slices.Concat(context, c), place, mac},
		"certificate and place":         {context, slices.Concat(c, place), mac},
		"place and mac":                 {context, c, slices.Concat(place, mac)},
		"all as one":                    {slices.Concat(context, c, place, mac)},
		"a mac in two":                  {context, c, place, mac[:16], mac[16:]},
		"a certificate in two":          {context, c[:2], c[2:], place, mac},
		"too many bytes in all":         {context, c, place, mac, someBytes(120)},
	}
	for name, blocks := range none {
		data := authBytes(blocks...)
		noAuth(t, name, impl.ReadAuth(data), impl.ErrText)
		noAuth(t, name+", packed", impl.ReadAuth(authBytes(data)), impl.ErrText)
		x := believing(t, makingKnown())
		x.data = data
		noAuth(t, "CheckAuth: "+name, x.ask(), impl.ErrText)
	}
	// A certificate of four bytes may be a context as well.
	sameAuth(t, "a certificate as context", impl.ReadAuth(authBytes(c, c, place, mac)), readAuthByHand(authBytes(c, c, place, mac)))
	sameCode(t, "a certificate as context", impl.ReadAuth(authBytes(c, c, place, mac)).Code, impl.OK)
}

func TestReadAuthCutOrLengthened(t *testing.T) {
	for i, m := range goodMakings() {
		x := believing(t, m)
		data := x.data
		for n := range len(data) {
			noAuth(t, fmt.Sprintf("making %d cut to %d", i, n), impl.ReadAuth(data[:n]), impl.ErrText)
			cut := data[n+1:]
			sameAuth(t, fmt.Sprintf("making %d cut ahead by %d", i, n+1), impl.ReadAuth(cut), readAuthByHand(cut))
			left := slices.Concat(data[:n], data[n+1:])
			sameAuth(t, fmt.Sprintf("making %d without byte %d", i, n), impl.ReadAuth(left), readAuthByHand(left))
			for _, b := range []byte{0, 1, 255} {
				more := slices.Concat(data[:n], []byte{b}, data[n:])
				sameAuth(t, fmt.Sprintf("making %d with %d at %d", i, b, n), impl.ReadAuth(more), readAuthByHand(more))
				x.data = more
				sameAuth(t, fmt.Sprintf("CheckAuth: making %d with %d at %d", i, b, n), x.ask(), x.byHand(t))
			}
			x.data = data[:n]
			noAuth(t, fmt.Sprintf("CheckAuth: making %d cut to %d", i, n), x.ask(), impl.ErrText)
			x.data = left
			sameAuth(t, fmt.Sprintf("CheckAuth: making %d without byte %d", i, n), x.ask(), x.byHand(t))
		}
		for n := 1; n < 200; n++ {
			for _, more := range [][]byte{make([]byte, n), someBytes(n)} {
				x.data = slices.Concat(data, more)
				noAuth(t, fmt.Sprintf("making %d lengthened by %d", i, n), impl.ReadAuth(x.data), impl.ErrText)
				noAuth(t, fmt.Sprintf("CheckAuth: making %d lengthened by %d", i, n), x.ask(), impl.ErrText)
			}
		}
		for _, n := range []int{256, 512, 600, 601, 65536} {
			noAuth(t, fmt.Sprintf("%d bytes", n), impl.ReadAuth(someBytes(n)), impl.ErrText)
			noAuth(t, fmt.Sprintf("%d zeros", n), impl.ReadAuth(make([]byte, n)), impl.ErrText)
		}
	}
}

func TestReadAuthChangedAtOneByte(t *testing.T) {
	for i, m := range goodMakings() {
		data := m.byHand(t).Bytes
		for at := range data {
			for b := range 256 {
				other := bytes.Clone(data)
				other[at] = byte(b)
				sameAuth(t, fmt.Sprintf("making %d with %d at %d", i, b, at), impl.ReadAuth(other), readAuthByHand(other))
			}
		}
	}
}

func TestReadAuthOfShortData(t *testing.T) {
	visitAll([]byte{0, 1, 4, 32, 255}, 6, func(data []byte) {
		noAuth(t, fmt.Sprintf("ReadAuth of %x", data), impl.ReadAuth(data), impl.ErrText)
	})
}

func TestCheckAuthAsksAll(t *testing.T) {
	m := makingKnown()
	good := believing(t, m)
	twins := []impl.Cert{m.c, m.c}
	certs := [][]impl.Cert{nil, {}, {m.c}, good.certs, {{Id: 1, Owner: 2, Until: 299}}, twins, {m.c, {}}, someCerts(9)}
	signs := [][]impl.Sign{nil, {}, good.signs, someSigns(40), signedFor(t, m, 40), {{Cert: 1, By: 2}}, {{Cert: 0, By: 2, Digest: digestOf(1)}}, someSigns(41)}
	datas := [][]byte{nil, {}, good.data, good.data[1:], changed(good.data, 8*len(good.data)-1), authBytes(m.context, make([]byte, 4), []byte{0}, m.macByHand(t)), someBytes(161)}
	for _, exporter := range [][]byte{nil, make([]byte, 31), make([]byte, 32), make([]byte, 33), rising(32)} {
		for _, role := range []int64{math.MinInt64, -1, 0, 1, 2, 3, 258, math.MaxInt64} {
			for _, c := range certs {
				for _, s := range signs {
					for _, now := range timesAsked() {
						for _, data := range datas {
							x := checking{exporter, role, c, s, now, data}
							name := fmt.Sprintf("CheckAuth of %d bytes, role %d, %d certificates, %d signatures, now %d, data %x", len(exporter), role, len(c), len(s), now, data)
							sameAuth(t, name, x.ask(), x.byHand(t))
						}
					}
				}
			}
		}
	}
}

func TestCheckAuthCodesInOrder(t *testing.T) {
	// Each row has one wrong thing less than the one ahead.
	m := makingKnown()
	good := believing(t, m)
	none, key := []byte{1}, m.exporter
	wrong, twins := []impl.Cert{m.c, {Id: 1, Owner: 10}}, []impl.Cert{m.c, m.c}
	far, short := make([]impl.Sign, 1), []impl.Sign{{Cert: 1, By: 2, Digest: someBytes(31)}}
	other := impl.Cert{Id: 1, Owner: 2, Until: 299}
	forged := authBytes(m.context, certByHand(m.c), []byte{0}, someBytes(32))
	rows := []struct {
		x    checking
		code int64
	}{
		{checking{nil, 0, someCerts(9), someSigns(41), -1, none}, impl.ErrForm},
		{checking{someBytes(31), 3, someCerts(9), someSigns(41), 10000, none}, impl.ErrForm},
		{checking{key, 0, someCerts(9), someSigns(41), -1, none}, impl.ErrRange},
		{checking{key, 3, someCerts(9), someSigns(41), 10000, none}, impl.ErrRange},
		{checking{key, 1, someCerts(9), far, -1, none}, impl.ErrMany},
		{checking{key, 1, wrong, someSigns(41), -1, none}, impl.ErrRange},
		{checking{key, 1, twins, someSigns(41), -1, none}, impl.ErrTaken},
		{checking{key, 1, nil, someSigns(41), -1, none}, impl.ErrMany},
		{checking{key, 1, nil, far, -1, none}, impl.ErrRange},
		{checking{key, 1, nil, short, -1, none}, impl.ErrForm},
		{checking{key, 1, nil, nil, -1, none}, impl.ErrRange},
		{checking{key, 1, nil, nil, 10000, none}, impl.ErrRange},
		{checking{key, 1, nil, nil, 9999, none}, impl.ErrText},
		{checking{key, 1, nil, nil, 9999, nil}, impl.ErrText},
		{checking{key, 1, nil, nil, 9999, forged}, impl.ErrNone},
		{checking{key, 1, []impl.Cert{other}, nil, 9999, forged}, impl.ErrNone},
		{checking{key, 1, good.certs, nil, 9999, forged}, impl.ErrOld},
		{checking{key, 1, good.certs, nil, 301, forged}, impl.ErrOld},
		{checking{key, 1, good.certs, nil, 300, forged}, impl.ErrSign},
		{checking{key, 1, good.certs, nil, 300, good.data}, impl.ErrSign},
		{checking{key, 1, good.certs, good.signs, 300, good.data}, impl.ErrSign},
		{checking{key, 2, good.certs, nil, 300, good.data}, impl.ErrSign},
		{checking{key, 2, good.certs, good.signs, 300, forged}, impl.ErrSign},
		{checking{key, 2, good.certs, good.signs, 300, good.data}, impl.OK},
	}
	for i, r := range rows {
		want := r.x.byHand(t)
		sameCode(t, fmt.Sprintf("row %d", i), want.Code, r.code)
		sameAuth(t, fmt.Sprintf("row %d", i), r.x.ask(), want)
	}
}

func TestBindOf(t *testing.T) {
	seen := map[string]bool{}
	for _, exporter := range exportersOfAuths() {
		code, want := whenForm(len(exporter) != 32), []byte(nil)
		if code == impl.OK {
			want = exportByHand(t, exporter, "channel binding", nil, 32)
		}
		sameList(t, fmt.Sprintf("BindOf %d bytes", len(exporter)), impl.BindOf(exporter), code, want)
	}
	for bit := range 256 {
		exporter := changed(rising(32), bit)
		unseen(t, seen, "BindOf", impl.BindOf(exporter), impl.AuthKey(exporter, 1, false), impl.AuthKey(exporter, 1, true), impl.AuthKey(exporter, 2, false), impl.AuthKey(exporter, 2, true))
	}
}

func TestP14WhatIsMadeOfASignatureIsBelieved(t *testing.T) {
	// From the handshake on: one end signs and makes, the other one believes.
	list := certsOfEdges()
	for _, k := range keyPairs() {
		pair := impl.PairOf(k.client, k.server)
		here, there := pair.Client.Secrets.Exporter, pair.Server.Secrets.Exporter
		var signs []impl.Sign
		for i := range 40 {
			c, context := list[i%8], someBytes(1+i%20)
			role := int64(1 + i%2)
			digest := impl.AuthDigest(here, role, context, c)
			given := impl.SignWith(list, nil, signs, c.Id, c.Owner, digest.Bytes)
			made := impl.MakeAuth(here, role, context, c, given.Place)
			sameCode(t, "what is made", firstCode(pair.Code, digest.Code, given.Code, made.Code), impl.OK)
			name := fmt.Sprintf("%s, %d", k.name, i)
			read := impl.ReadAuth(made.Bytes)
			for _, now := range []int64{0, c.Until / 2, c.Until} {
				got := impl.CheckAuth(there, role, list, given.Signs, now, made.Bytes)
				sameAuth(t, name, got, read)
				sameAuth(t, name+" by its maker", impl.CheckAuth(here, role, list, given.Signs, now, made.Bytes), read)
			}
			if !bytes.Equal(read.Auth.Context, context) || read.Auth.Cert != c || read.Auth.Place != int64(i) || len(read.Auth.Mac) != 32 {
				t.Errorf("%s: %+v", name, read)
			}
			noAuth(t, name+" ahead of its signature", impl.CheckAuth(there, role, list, signs, 0, made.Bytes), impl.ErrSign)
			signs = given.Signs
		}
	}
}

func TestP14BelievedAtEachPlaceAndEachTime(t *testing.T) {
	for _, m := range goodMakings() {
		for place := range int64(40) {
			m.place = place
			x := believing(t, m)
			sameAuth(t, fmt.Sprintf("place %d", place), x.ask(), m.auth(t))
			x.signs = signedFor(t, m, 40)
			sameAuth(t, fmt.Sprintf("place %d of 40", place), x.ask(), m.auth(t))
			x.signs[place].By = 0
			sameAuth(t, fmt.Sprintf("place %d, by a leaked key", place), x.ask(), m.auth(t))
		}
	}
	x := believing(t, makingKnown())
	for now := int64(-3); now < 10005; now++ {
		x.now = now
		got := x.ask()
		sameCode(t, fmt.Sprintf("at %d", now), got.Code, firstCode(whenRange(now < 0 || now > 9999), when(now > 300, impl.ErrOld)))
	}
}

func TestP14BelievedAmongOtherCertificates(t *testing.T) {
	list := certsOfEdges()
	for at, c := range list {
		m := makingKnown()
		m.c = c
		x := believing(t, m)
		x.certs = list
		sameAuth(t, fmt.Sprintf("certificate %d of 8", at), x.ask(), m.auth(t))
		x.certs = slices.Concat(list[:at], list[at+1:])
		noAuth(t, fmt.Sprintf("all but certificate %d", at), x.ask(), impl.ErrNone)
		x.certs = list[at : at+1]
		sameAuth(t, fmt.Sprintf("certificate %d alone", at), x.ask(), m.auth(t))
	}
}

// otherMakings are of another role, context, exporter or place than m.
func otherMakings(m making, visit func(name string, other making)) {
	another := func(name string, change func(m *making)) {
		other := m.clone()
		change(&other)
		visit(name, other)
	}
	another("of the other role", func(m *making) { m.role = 3 - m.role })
	for bit := range 8 * len(m.context) {
		another("a context changed at one bit", func(m *making) { m.context = changed(m.context, bit) })
	}
	if len(m.context) > 1 {
		another("a context that is cut", func(m *making) { m.context = m.context[:len(m.context)-1] })
		another("a context that is cut ahead", func(m *making) { m.context = m.context[1:] })
	}
	if len(m.context) < 20 {
		another("a context that is lengthened", func(m *making) { m.context = append(m.context, 0) })
		another("a context that is lengthened ahead", func(m *making) { m.context = slices.Concat([]byte{0}, m.context) })
	}
	for bit := 0; bit < 256; bit += 5 {
		another("an exporter changed at one bit", func(m *making) { m.exporter = changed(m.exporter, bit) })
	}
	for _, place := range []int64{0, 1, 20, 38, 39} {
		if place != m.place {
			another(fmt.Sprintf("at place %d", place), func(m *making) { m.place = place })
		}
	}
	another("of the other role and another context", func(m *making) { m.role, m.context = 3-m.role, []byte("another") })
}

func TestP14OfOtherRolesContextsExportersAndPlaces(t *testing.T) {
	for _, m := range goodMakings() {
		good := believing(t, m)
		good.signs = signedFor(t, m, 40)
		sameAuth(t, "as it was made", good.ask(), m.auth(t))
		otherMakings(m, func(name string, other making) {
			// What is made for one is not believed as of the other, who has just the signature of its own.
			x := good.clone()
			x.data = other.byHand(t).Bytes
			noAuth(t, name+": data", x.ask(), impl.ErrSign)
			x = good.clone()
			x.exporter, x.role = other.exporter, other.role
			x.signs = signedFor(t, other, 40)
			x.data = other.byHand(t).Bytes
			sameAuth(t, name+": all", x.ask(), other.auth(t))
			x.data = good.data
			noAuth(t, name+": all but the data", x.ask(), impl.ErrSign)
			x.data, x.signs = other.byHand(t).Bytes, good.signs
			noAuth(t, name+": all but the signature", x.ask(), impl.ErrSign)
		})
	}
}

func TestP14MacAndSignatureAreBothAskedFor(t *testing.T) {
	for _, m := range goodMakings() {
		good := believing(t, m)
		good.signs = signedFor(t, m, 40)
		otherMakings(m, func(name string, other making) {
			// Its own signature is there, but the Mac is that of another one.
			x := good.clone()
			x.data = authBytes(m.context, certByHand(m.c), []byte{byte(m.place)}, other.macByHand(t))
			noAuth(t, name+": its Mac", x.ask(), impl.ErrSign)
			if other.place == m.place {
				// Its own Mac, but the signature is that of another one.
				x = good.clone()
				x.signs[m.place].Digest = other.digestByHand(t).Bytes
				noAuth(t, name+": its signature", x.ask(), impl.ErrSign)
			}
		})
		for bit := range 256 {
			x := good.clone()
			x.data = changed(good.data, 8*(len(good.data)-32)+bit)
			noAuth(t, "a Mac changed at one bit", x.ask(), impl.ErrSign)
			x = good.clone()
			x.signs[m.place].Digest = changed(x.signs[m.place].Digest, bit)
			noAuth(t, "a signature changed at one bit", x.ask(), impl.ErrSign)
		}
		for id := int64(1); id <= 99; id++ {
			x := good.clone()
			x.signs[m.place].Cert = id
			sameCode(t, fmt.Sprintf("a signature of %d", id), x.ask().Code, when(id != m.c.Id, impl.ErrSign))
		}
		for by := range int64(10) {
			x := good.clone()
			x.signs[m.place].By = by
			sameAuth(t, fmt.Sprintf("a signature by %d", by), x.ask(), m.auth(t))
		}
	}
}

func TestP14SignatureMovedToAnotherPlace(t *testing.T) {
	for _, m := range goodMakings() {
		good := believing(t, m)
		own := impl.Sign{Cert: m.c.Id, By: m.c.Owner, Digest: m.digestByHand(t).Bytes}
		for at := range 40 {
			x := good.clone()
			x.signs = withSign(someSigns(40), at, own)
			sameCode(t, fmt.Sprintf("its signature at %d", at), x.ask().Code, when(int64(at) != m.place, impl.ErrSign))
			// A place that is told anew needs a Mac of its own.
			x.data = authBytes(m.context, certByHand(m.c), []byte{byte(at)}, m.macByHand(t))
			sameCode(t, fmt.Sprintf("its signature and place at %d", at), x.ask().Code, when(int64(at) != m.place, impl.ErrSign))
			moved := m
			moved.place = int64(at)
			x.data = moved.byHand(t).Bytes
			sameAuth(t, fmt.Sprintf("its signature, place and Mac at %d", at), x.ask(), moved.auth(t))
		}
		x := good.clone()
		x.signs = slices.Repeat([]impl.Sign{own}, 40)
		sameAuth(t, "its signature at all places", x.ask(), m.auth(t))
	}
}

// otherCerts have the Id of c, but another Owner, another Until, or both.
func otherCerts(c impl.Cert) []impl.Cert {
	var list []impl.Cert
	for owner := int64(1); owner <= 9; owner++ {
		for _, until := range append(goodUntils(), c.Until, max(c.Until-1, 0), min(c.Until+1, 9999)) {
			other := impl.Cert{Id: c.Id, Owner: owner, Until: until}
			if other != c {
				list = append(list, other)
			}
		}
	}
	return list
}

func TestP14CertificatesThatChanged(t *testing.T) {
	for _, m := range goodMakings() {
		good := believing(t, m)
		good.now = 0
		sameAuth(t, "as it was told", good.ask(), m.auth(t))
		for _, c := range otherCerts(m.c) {
			name := fmt.Sprintf("%+v, now %+v", m.c, c)
			x := good.clone()
			x.certs = []impl.Cert{c}
			noAuth(t, name+": the list", x.ask(), impl.ErrNone)
			x.certs = withCert(good.certs, 1, c)
			noAuth(t, name+": in the list", x.ask(), impl.ErrNone)
			// As it is told now, but signed as it was.
			told := m
			told.c = c
			x = good.clone()
			x.data = told.byHand(t).Bytes
			noAuth(t, name+": what is told", x.ask(), impl.ErrNone)
			x.certs = []impl.Cert{c}
			noAuth(t, name+": what is told, and the list", x.ask(), impl.ErrSign)
			x.signs = signedFor(t, told, int(m.place)+1)
			sameAuth(t, name+": all", x.ask(), told.auth(t))
			// The certificate's block alone, with the Mac as it was.
			x.data = authBytes(m.context, certByHand(c), []byte{byte(m.place)}, m.macByHand(t))
			noAuth(t, name+": all but the Mac", x.ask(), impl.ErrSign)
		}
	}
}

func TestP14CertificatesThatAreOver(t *testing.T) {
	for _, until := range goodUntils() {
		m := makingKnown()
		m.c.Until = until
		x := believing(t, m)
		for _, now := range append(goodUntils(), until-1, until+1) {
			x.now = now
			code := firstCode(whenRange(now < 0 || now > 9999), when(until < now, impl.ErrOld))
			sameCode(t, fmt.Sprintf("until %d, at %d", until, now), x.ask().Code, code)
			sameAuth(t, fmt.Sprintf("until %d, at %d", until, now), x.ask(), x.byHand(t))
		}
	}
}

// holdsOf tells whether what is believed is signed, of its certificate, and not
// too old.
func holdsOf(x checking, a impl.Auth) bool {
	digest := impl.AuthDigest(x.exporter, x.role, a.Context, a.Cert)
	made := impl.MakeAuth(x.exporter, x.role, a.Context, a.Cert, a.Place)
	if a.Place < 0 || a.Place >= int64(len(x.signs)) || digest.Code != impl.OK || made.Code != impl.OK {
		return false
	}
	s := x.signs[a.Place]
	return slices.Contains(x.certs, a.Cert) && a.Cert.Until >= x.now && s.Cert == a.Cert.Id && bytes.Equal(s.Digest, digest.Bytes) &&
		impl.CheckSign(x.signs, a.Place, a.Cert.Id, digest.Bytes) && bytes.Equal(made.Bytes, x.data) && bytes.Equal(made.Bytes[len(made.Bytes)-32:], a.Mac)
}

func TestP14WhatIsBelievedHolds(t *testing.T) {
	believed, all := 0, 0
	see := func(x checking) {
		t.Helper()
		all++
		got := x.ask()
		sameAuth(t, fmt.Sprintf("%+v", x), got, x.byHand(t))
		if got.Code == impl.OK {
			believed++
			sameBool(t, fmt.Sprintf("%+v holds", x), holdsOf(x, got.Auth), true)
		}
	}
	// Any data said to anybody, at any time.
	var datas [][]byte
	var makings []making
	var signs []impl.Sign
	list := []impl.Cert{{Id: 1, Owner: 2, Until: 300}, {Id: 2, Owner: 3, Until: 9}, {Id: 99, Owner: 9, Until: 9999}}
	for i := range 12 {
		m := making{[][]byte{rising(32), someBytes(32)}[i%2], int64(1 + i/2%2), []byte{byte(i / 4)}, list[i%3], int64(i)}
		makings = append(makings, m)
		datas = append(datas, m.byHand(t).Bytes)
		signs = append(signs, impl.Sign{Cert: m.c.Id, By: m.c.Owner, Digest: m.digestByHand(t).Bytes})
	}
	for _, m := range makings {
		for _, data := range datas {
			for _, now := range []int64{0, 9, 10, 300, 301, 9999} {
				for _, n := range []int{3, 12} {
					see(checking{m.exporter, m.role, list, signs[:n], now, data})
				}
			}
			see(checking{m.exporter, m.role, list[:1], signs, 0, data})
		}
	}
	// Each bit of what is said.
	for _, m := range goodMakings() {
		x := believing(t, m)
		see(x)
		data := x.data
		for bit := range 8 * len(data) {
			x.data = changed(data, bit)
			see(x)
		}
	}
	if believed < 50 || believed > all/2 {
		t.Errorf("%d of %d are believed", believed, all)
	}
}

func TestP14ChangedAtOneByteIsNotBelieved(t *testing.T) {
	for i, m := range goodMakings() {
		x := believing(t, m)
		data := x.data
		for at := range data {
			for _, by := range []byte{1, 2, 16, 128, 255, data[at]} {
				x.data = bytes.Clone(data)
				x.data[at] ^= by
				got := x.ask()
				if by != 0 && got.Code == impl.OK {
					t.Errorf("making %d is believed with %d at %d", i, x.data[at], at)
				}
			}
		}
	}
}

func TestP14IsReadBack(t *testing.T) {
	for _, exporter := range goodKeys() {
		for _, role := range []int64{1, 2} {
			for n := 1; n <= 20; n++ {
				for i, c := range certsOfEdges() {
					m := making{exporter, role, someBytes(n), c, int64((n*8 + i) % 40)}
					made := m.ask()
					sameList(t, fmt.Sprintf("MakeAuth of %+v", m), made, impl.OK, m.byHand(t).Bytes)
					sameAuth(t, fmt.Sprintf("ReadAuth of %+v", m), impl.ReadAuth(made.Bytes), m.auth(t))
					if len(made.Bytes) != 41+n {
						t.Errorf("a context of %d bytes: %d bytes are made", n, len(made.Bytes))
					}
				}
			}
		}
	}
}

func TestP14DataThatIsReadIsOfItsForm(t *testing.T) {
	read := 0
	see := func(data []byte) {
		t.Helper()
		got := impl.ReadAuth(data)
		if got.Code != impl.OK {
			noAuth(t, fmt.Sprintf("%x", data), got, impl.ErrText)
			return
		}
		read++
		a := got.Auth
		packed := impl.PackBlocks([][]byte{a.Context, impl.PackCert(a.Cert).Bytes, {byte(a.Place)}, a.Mac})
		sameList(t, fmt.Sprintf("the blocks of %x", data), packed, impl.OK, data)
		if len(a.Context) < 1 || len(a.Context) > impl.MaxContext || hasNoCert(a.Cert) || a.Place < 0 || a.Place > 255 || len(a.Mac) != impl.KeyBytes {
			t.Errorf("%x is read as %+v", data, a)
		}
	}
	for _, m := range goodMakings() {
		data := m.byHand(t).Bytes
		for at := range data {
			for b := range 256 {
				other := bytes.Clone(data)
				other[at] = byte(b)
				see(other)
				// Two bytes at once: the next one told by the first.
				if at+1 < len(other) {
					other[at+1] = byte(255 - b)
					see(other)
				}
			}
		}
	}
	// Each two lengths of blocks, one more and one less.
	data := authBytes(someBytes(6), []byte{1, 2, 1, 44}, []byte{3}, bytes.Repeat([]byte{1}, 32))
	starts := []int{0, 7, 12, 14}
	for _, a := range starts {
		for _, b := range starts {
			for _, by := range []int{-2, -1, 1, 2} {
				other := bytes.Clone(data)
				other[a] += byte(by)
				other[b] -= byte(by)
				see(other)
			}
		}
	}
	if read < 1000 {
		t.Errorf("only %d are read", read)
	}
}

func TestP14AuthsAreToldApart(t *testing.T) {
	// No two keys are the same, and no two digests of anything that is not the same.
	seen := map[string]bool{}
	for _, exporter := range goodKeys() {
		unseen(t, seen, "keys", impl.AuthKey(exporter, 1, false), impl.AuthKey(exporter, 1, true), impl.AuthKey(exporter, 2, false), impl.AuthKey(exporter, 2, true), impl.BindOf(exporter))
		for _, role := range []int64{1, 2} {
			for _, context := range [][]byte{{0}, {0, 0}, {1}, {0, 1}, {1, 0}, make([]byte, 20), someBytes(20)} {
				for _, c := range certsOfEdges() {
					m := making{exporter, role, context, c, 0}
					unseen(t, seen, fmt.Sprintf("digest of %+v", m), m.askDigest())
					for _, place := range []int64{0, 1, 39} {
						m.place = place
						made := m.ask()
						unseen(t, seen, fmt.Sprintf("Mac of %+v", m), impl.BytesResult{Code: made.Code, Bytes: made.Bytes[len(made.Bytes)-32:]})
					}
				}
			}
		}
	}
}

func wrongCheckings(t *testing.T) []checking {
	t.Helper()
	good := believing(t, makingKnown())
	var list []checking
	add := func(change func(x *checking)) {
		x := good.clone()
		change(&x)
		list = append(list, x)
	}
	list = append(list, checking{})
	add(func(x *checking) { x.exporter = someBytes(31) })
	add(func(x *checking) { x.role = 0 })
	add(func(x *checking) { x.role = 1 })
	add(func(x *checking) { x.certs = someCerts(9) })
	add(func(x *checking) { x.certs = append(x.certs, x.certs[0]) })
	add(func(x *checking) { x.certs = x.certs[:1] })
	add(func(x *checking) { x.signs = someSigns(41) })
	add(func(x *checking) { x.signs[0].Digest = someBytes(33) })
	add(func(x *checking) { x.signs = nil })
	add(func(x *checking) { x.now = 301 })
	add(func(x *checking) { x.now = 10000 })
	add(func(x *checking) { x.data = x.data[1:] })
	add(func(x *checking) { x.data = changed(x.data, 8*len(x.data)-1) })
	add(func(x *checking) { x.data = someBytes(161) })
	return list
}

func goodCheckings(t *testing.T) []checking {
	t.Helper()
	var list []checking
	for _, m := range goodMakings() {
		list = append(list, believing(t, m))
	}
	return list
}

func TestP1AuthArgumentsStay(t *testing.T) {
	for _, was := range append(wrongMakings(), goodMakings()...) {
		m := making{roomyFor(was.exporter), was.role, roomyFor(was.context), was.c, was.place}
		impl.AuthKey(m.exporter, m.role, false)
		impl.AuthKey(m.exporter, m.role, true)
		m.askDigest()
		m.ask()
		impl.BindOf(m.exporter)
		impl.ReadAuth(m.context)
		if !stays(m.exporter, was.exporter) || !stays(m.context, was.context) {
			t.Errorf("an argument is changed: %+v", was)
		}
	}
	for _, was := range append(wrongCheckings(t), goodCheckings(t)...) {
		x := checking{roomyFor(was.exporter), was.role, roomyCerts(was.certs), roomySigns(was.signs), was.now, roomyFor(was.data)}
		impl.ReadAuth(x.data)
		x.ask()
		if !stays(x.exporter, was.exporter) || !staysCerts(x.certs, was.certs) || !staysSigns(x.signs, was.signs) || !stays(x.data, was.data) {
			t.Errorf("an argument is changed: %+v", was)
		}
	}
}

// askedOf are all answers that are bytes.
func askedOf(m making) map[string]func() impl.BytesResult {
	return map[string]func() impl.BytesResult{
		"AuthKey":           func() impl.BytesResult { return impl.AuthKey(m.exporter, m.role, false) },
		"AuthKey of finish": func() impl.BytesResult { return impl.AuthKey(m.exporter, m.role, true) },
		"AuthDigest":        m.askDigest,
		"MakeAuth":          m.ask,
		"BindOf":            func() impl.BytesResult { return impl.BindOf(m.exporter) },
	}
}

func TestP1AuthBytesAreNewMemory(t *testing.T) {
	for i := range goodMakings() {
		for name := range askedOf(makingKnown()) {
			m := goodMakings()[i]
			ask := askedOf(m)[name]
			first, second := ask(), ask()
			want := bytes.Clone(first.Bytes)
			sharesNone(t, name, [][]byte{first.Bytes, second.Bytes, m.exporter, m.context})
			spoil(first.Bytes)
			sameList(t, name+" told ahead", second, impl.OK, want)
			sameList(t, name+" told behind", ask(), impl.OK, want)
			spoil(m.exporter)
			spoil(m.context)
			sameList(t, name+" of what is changed behind it", second, impl.OK, want)
			sameList(t, name+" asked once more", askedOf(goodMakings()[i])[name](), impl.OK, want)
		}
	}
}

func TestP1AuthsAreNewMemory(t *testing.T) {
	for i, m := range goodMakings() {
		want := m.auth(t)
		x := believing(t, m)
		asks := map[string]func() impl.AuthResult{
			"ReadAuth":  func() impl.AuthResult { return impl.ReadAuth(x.data) },
			"CheckAuth": x.ask,
		}
		for name, ask := range asks {
			name = fmt.Sprintf("%s of making %d", name, i)
			first, second := ask(), ask()
			sharesNone(t, name, slices.Concat([][]byte{first.Auth.Context, first.Auth.Mac, second.Auth.Context, second.Auth.Mac, x.data, x.exporter}, bytesOfSigns(x.signs)))
			spoil(first.Auth.Context)
			spoil(first.Auth.Mac)
			sameAuth(t, name+" told ahead", second, want)
			sameAuth(t, name+" told behind", ask(), want)
		}
		told := x.ask()
		spoil(x.data)
		spoil(x.exporter)
		spoilSigns(x.signs)
		clear(x.certs)
		sameAuth(t, "of what is changed behind it", told, want)
	}
}

func TestP1AuthsOfOneMemory(t *testing.T) {
	// Exporter, context, digests and data lie in one memory.
	whole := someBytes(200)
	was := bytes.Clone(whole)
	c := impl.Cert{Id: 1, Owner: 2, Until: 300}
	m := making{whole[:32], 1, whole[20:40], c, 2}
	want := m.clone().byHand(t)
	sameList(t, "MakeAuth of one memory", m.ask(), impl.OK, want.Bytes)
	copy(whole[60:], want.Bytes)
	copy(whole[130:], m.digestByHand(t).Bytes)
	digest := whole[130:162]
	x := checking{m.exporter, 1, []impl.Cert{c}, []impl.Sign{{Cert: 1, By: 2, Digest: digest}, {Cert: 2, By: 2, Digest: digest}, {Cert: 1, By: 2, Digest: digest}}, 0, whole[60 : 60+len(want.Bytes)]}
	now := bytes.Clone(whole)
	got := x.ask()
	sameAuth(t, "CheckAuth of one memory", got, m.clone().auth(t))
	sharesNone(t, "CheckAuth of one memory", [][]byte{got.Auth.Context, got.Auth.Mac, whole})
	if !bytes.Equal(whole, now) || !bytes.Equal(whole[:60], was[:60]) {
		t.Error("that memory is changed")
	}
}

func TestP1AuthsHangOnArgumentsAlone(t *testing.T) {
	m := makingKnown()
	good := believing(t, m)
	digest, made, want := m.digestByHand(t), m.byHand(t), m.auth(t)
	ask := func() {
		t.Helper()
		sameList(t, "AuthKey", impl.AuthKey(m.exporter, 1, true), impl.OK, authKeyByHand(t, m.exporter, 1, true))
		sameList(t, "AuthDigest", m.askDigest(), impl.OK, digest.Bytes)
		sameList(t, "MakeAuth", m.ask(), impl.OK, made.Bytes)
		sameAuth(t, "ReadAuth", impl.ReadAuth(made.Bytes), want)
		sameAuth(t, "CheckAuth", good.ask(), want)
		sameList(t, "BindOf", impl.BindOf(m.exporter), impl.OK, exportByHand(t, m.exporter, "channel binding", nil, 32))
	}
	ask()
	// What is believed or refused in between leaves nothing behind.
	for _, x := range append(wrongCheckings(t), goodCheckings(t)...) {
		x.ask()
		impl.ReadAuth(x.data)
		ask()
	}
	for _, other := range append(wrongMakings(), goodMakings()...) {
		other.ask()
		other.askDigest()
		impl.BindOf(other.exporter)
		impl.AuthKey(other.exporter, other.role, true)
		ask()
	}
}

func TestP1AuthsAtOnce(t *testing.T) {
	// What is asked at the same time is answered as if it were asked alone.
	type told struct {
		x    checking
		got  impl.AuthResult
		read impl.AuthResult
	}
	var all []checking
	for range 8 {
		all = append(all, append(wrongCheckings(t), goodCheckings(t)...)...)
	}
	out := make(chan told, len(all))
	for _, x := range all {
		go func() {
			out <- told{x, x.ask(), impl.ReadAuth(x.data)}
		}()
	}
	for range all {
		x := <-out
		sameAuth(t, "checked at once", x.got, x.x.byHand(t))
		sameAuth(t, "read at once", x.read, readAuthByHand(x.x.data))
	}
}

func TestP1AuthsOfNothing(t *testing.T) {
	// Nothing, be it nil or empty, is one value.
	m := makingKnown()
	good := believing(t, m)
	for _, none := range [][]byte{nil, {}} {
		for _, role := range rolesAsked() {
			sameList(t, "AuthKey of nothing", impl.AuthKey(none, role, false), impl.ErrForm, nil)
			sameList(t, "AuthKey of nothing, with finish", impl.AuthKey(none, role, true), impl.ErrForm, nil)
		}
		sameList(t, "BindOf nothing", impl.BindOf(none), impl.ErrForm, nil)
		sameList(t, "AuthDigest of no exporter", impl.AuthDigest(none, 1, []byte{1}, m.c), impl.ErrForm, nil)
		sameList(t, "AuthDigest of no context", impl.AuthDigest(m.exporter, 1, none, m.c), impl.ErrMany, nil)
		sameList(t, "MakeAuth of no exporter", impl.MakeAuth(none, 1, []byte{1}, m.c, 0), impl.ErrForm, nil)
		sameList(t, "MakeAuth of no context", impl.MakeAuth(m.exporter, 1, none, m.c, 0), impl.ErrMany, nil)
		noAuth(t, "ReadAuth of nothing", impl.ReadAuth(none), impl.ErrText)
		noAuth(t, "CheckAuth of no exporter", impl.CheckAuth(none, 2, good.certs, good.signs, 0, good.data), impl.ErrForm)
		noAuth(t, "CheckAuth of no data", impl.CheckAuth(m.exporter, 2, good.certs, good.signs, 0, none), impl.ErrText)
	}
	for _, none := range [][]impl.Cert{nil, {}} {
		noAuth(t, "CheckAuth of no certificates", impl.CheckAuth(m.exporter, 2, none, good.signs, 0, good.data), impl.ErrNone)
	}
	for _, none := range [][]impl.Sign{nil, {}} {
		noAuth(t, "CheckAuth of no signatures", impl.CheckAuth(m.exporter, 2, good.certs, none, 0, good.data), impl.ErrSign)
	}
	noAuth(t, "CheckAuth of nothing at all", checking{}.ask(), impl.ErrForm)
	sameList(t, "MakeAuth of nothing at all", making{}.ask(), impl.ErrForm, nil)
}
