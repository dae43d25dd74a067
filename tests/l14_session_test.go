package tests

import (
	"bytes"
	"cmp"
	"fmt"
	"math"
	"slices"
	"testing"

	"loop.example/g00375/impl"
)

func hasNoContext(context []byte) bool {
	return len(context) < 1 || len(context) > 20
}

func hasContext(list [][]byte, context []byte) bool {
	return slices.ContainsFunc(list, func(other []byte) bool { return bytes.Equal(other, context) })
}

// contextsFaultByHand and the like are what the program's answers are held
// against.
func contextsFaultByHand(list [][]byte) int64 {
	for i, context := range list {
		code := firstCode(when(hasNoContext(context), impl.ErrMany), when(hasContext(list[:i], context), impl.ErrTaken))
		if code != impl.OK {
			return code
		}
	}
	return impl.OK
}

func heldFaultByHand(list []impl.Held) int64 {
	far, falls := false, false
	for i, h := range list {
		far = far || h.Cert < 1 || h.Cert > 99 || h.Until < 0 || h.Until > 9999
		falls = falls || i > 0 && list[i-1].Cert >= h.Cert
	}
	return firstCode(whenRange(far), whenForm(falls))
}

func sessionFaultByHand(x impl.Session) int64 {
	return firstCode(
		codeOfAuthKey(x.Exporter, x.Role),
		when(len(x.Asked) > 6 || len(x.Used) > 40 || len(x.Held) > 6, impl.ErrMany),
		contextsFaultByHand(slices.Concat(x.Asked, x.Used)),
		heldFaultByHand(x.Held),
	)
}

func newByHand(exporter []byte, role int64) impl.SessionResult {
	code := codeOfAuthKey(exporter, role)
	if code != impl.OK {
		return impl.SessionResult{Code: code}
	}
	return impl.SessionResult{Session: impl.Session{Exporter: exporter, Role: role}}
}

func askByHand(x impl.Session, context []byte) impl.SessionResult {
	code := firstCode(
		sessionFaultByHand(x),
		when(hasNoContext(context), impl.ErrMany),
		when(hasContext(x.Asked, context) || hasContext(x.Used, context), impl.ErrTaken),
		whenLimit(len(x.Asked) == 6 || len(x.Asked)+len(x.Used) >= 40),
	)
	if code != impl.OK {
		return impl.SessionResult{Code: code}
	}
	x.Asked = slices.Concat(x.Asked, [][]byte{context})
	return impl.SessionResult{Session: x}
}

// hearing is all that HearAuth is asked with.
type hearing struct {
	x     impl.Session
	certs []impl.Cert
	signs []impl.Sign
	now   int64
	data  []byte
}

func (h hearing) ask() impl.SessionResult {
	return impl.HearAuth(h.x, h.certs, h.signs, h.now, h.data)
}

func (h hearing) clone() hearing {
	return hearing{cloneSession(h.x), slices.Clone(h.certs), cloneSigns(h.signs), h.now, bytes.Clone(h.data)}
}

func holdsCert(list []impl.Held, cert int64) bool {
	return slices.ContainsFunc(list, func(h impl.Held) bool { return h.Cert == cert })
}

func heldWithout(list []impl.Held, cert int64) []impl.Held {
	return slices.DeleteFunc(slices.Clone(list), func(h impl.Held) bool { return h.Cert == cert })
}

func heldWith(list []impl.Held, c impl.Cert) []impl.Held {
	out := append(heldWithout(list, c.Id), impl.Held{Cert: c.Id, Until: c.Until})
	slices.SortFunc(out, func(a impl.Held, b impl.Held) int { return cmp.Compare(a.Cert, b.Cert) })
	return out
}

func (h hearing) byHand(t *testing.T) impl.SessionResult {
	t.Helper()
	code := sessionFaultByHand(h.x)
	if code != impl.OK {
		return impl.SessionResult{Code: code}
	}
	believed := checking{h.x.Exporter, 3 - h.x.Role, h.certs, h.signs, h.now, h.data}.byHand(t)
	a, x := believed.Auth, h.x
	full := len(x.Used) == 40 || len(x.Held) == 6 && !holdsCert(x.Held, a.Cert.Id)
	code = firstCode(believed.Code, whenState(!hasContext(x.Asked, a.Context)), whenLimit(full))
	if code != impl.OK {
		return impl.SessionResult{Code: code}
	}
	x.Asked = slices.DeleteFunc(slices.Clone(x.Asked), func(other []byte) bool { return bytes.Equal(other, a.Context) })
	x.Used = slices.Concat(x.Used, [][]byte{a.Context})
	x.Held = heldWith(x.Held, a.Cert)
	return impl.SessionResult{Cert: a.Cert.Id, Session: x}
}

func revokeByHand(x impl.Session, cert int64) impl.SessionResult {
	code := firstCode(sessionFaultByHand(x), when(!holdsCert(x.Held, cert), impl.ErrNone))
	if code != impl.OK {
		return impl.SessionResult{Code: code}
	}
	x.Held = heldWithout(x.Held, cert)
	return impl.SessionResult{Session: x}
}

func timeByHand(x impl.Session, now int64) impl.SessionResult {
	code := firstCode(sessionFaultByHand(x), whenRange(now < 0 || now > 9999))
	if code != impl.OK {
		return impl.SessionResult{Code: code}
	}
	x.Held = slices.DeleteFunc(slices.Clone(x.Held), func(h impl.Held) bool { return h.Until < now })
	return impl.SessionResult{Session: x}
}

func holdsByHand(x impl.Session, cert int64, now int64) bool {
	return sessionFaultByHand(x) == impl.OK && slices.ContainsFunc(x.Held, func(h impl.Held) bool { return h.Cert == cert && h.Until >= now })
}

func bindByHand(t *testing.T, exporter []byte) []byte {
	t.Helper()
	return exportByHand(t, exporter, "channel binding", nil, 32)
}

func tokenByHand(t *testing.T, x impl.Session, token []byte) int64 {
	t.Helper()
	code := sessionFaultByHand(x)
	if code != impl.OK {
		return code
	}
	return when(!bytes.Equal(token, bindByHand(t, x.Exporter)), impl.ErrSign)
}

func cloneSession(x impl.Session) impl.Session {
	return impl.Session{Exporter: bytes.Clone(x.Exporter), Role: x.Role, Asked: cloneBlocks(x.Asked), Used: cloneBlocks(x.Used), Held: slices.Clone(x.Held)}
}

func cloneSessionResult(r impl.SessionResult) impl.SessionResult {
	r.Session = cloneSession(r.Session)
	return r
}

func alikeSessions(a impl.Session, b impl.Session) bool {
	return bytes.Equal(a.Exporter, b.Exporter) && a.Role == b.Role && slices.EqualFunc(a.Asked, b.Asked, bytes.Equal) &&
		slices.EqualFunc(a.Used, b.Used, bytes.Equal) && slices.Equal(a.Held, b.Held)
}

func sameSession(t *testing.T, name string, got impl.SessionResult, want impl.SessionResult) {
	t.Helper()
	if got.Code != want.Code || got.Cert != want.Cert || !alikeSessions(got.Session, want.Session) {
		t.Errorf("%s: %+v, want %+v", name, got, want)
	}
}

func noSession(t *testing.T, name string, got impl.SessionResult, code int64) {
	t.Helper()
	sameSession(t, name, got, impl.SessionResult{Code: code})
}

// contextOf is the n-th context: no two of them are the same, and their lengths
// are 2 to 20.
func contextOf(n int) []byte {
	context := someBytes(2 + n%19)
	context[0], context[1] = byte(n), byte(n>>8)
	return context
}

func contextsFrom(first int, n int) [][]byte {
	var list [][]byte
	for i := range n {
		list = append(list, contextOf(first+i))
	}
	return list
}

func heldOf(n int) []impl.Held {
	var list []impl.Held
	for i := range n {
		list = append(list, impl.Held{Cert: int64(2 + 16*i), Until: int64(100*i + 50)})
	}
	return list
}

// sessionOf has so many that are Asked (from the 100th context on), Used (from
// the 200th on) and Held.
func sessionOf(asked int, used int, held int) impl.Session {
	return impl.Session{Exporter: rising(32), Role: 1, Asked: contextsFrom(100, asked), Used: contextsFrom(200, used), Held: heldOf(held)}
}

// telling is what x is told by the other one, who signed it at place.
func telling(t *testing.T, x impl.Session, context []byte, c impl.Cert, place int64) hearing {
	t.Helper()
	y := believing(t, making{x.Exporter, 3 - x.Role, context, c, place})
	return hearing{x, y.certs, y.signs, y.now, y.data}
}

// changing makes another session of x, and x stays as it was.
func changing(x impl.Session, change func(x *impl.Session)) impl.Session {
	other := cloneSession(x)
	change(&other)
	return other
}

// goodSessions have the edges as well.
func goodSessions() []impl.Session {
	return []impl.Session{
		{Exporter: make([]byte, 32), Role: 1},
		{Exporter: someBytes(32), Role: 2, Asked: [][]byte{{0}}, Used: [][]byte{make([]byte, 20)}, Held: []impl.Held{{Cert: 1, Until: 0}, {Cert: 99, Until: 9999}}},
		{Exporter: rising(32), Role: 2, Asked: [][]byte{{0}, {0, 0}, {1}}, Used: [][]byte{{0, 0, 0}, {2}}, Held: []impl.Held{{Cert: 50, Until: 50}}},
		sessionOf(1, 0, 0),
		sessionOf(0, 1, 0),
		sessionOf(0, 0, 1),
		sessionOf(5, 34, 5),
		sessionOf(6, 33, 6),
		sessionOf(6, 34, 6),
		sessionOf(1, 39, 6),
		sessionOf(0, 40, 6),
		sessionOf(6, 40, 6),
	}
}

type wrongSession struct {
	name string
	x    impl.Session
	code int64
}

// wrongSessions have one fault each.
func wrongSessions() []wrongSession {
	var list []wrongSession
	add := func(name string, code int64, change func(x *impl.Session)) {
		list = append(list, wrongSession{name, changing(sessionOf(3, 5, 3), change), code})
	}
	add("no exporter", impl.ErrForm, func(x *impl.Session) { x.Exporter = nil })
	add("an empty exporter", impl.ErrForm, func(x *impl.Session) { x.Exporter = []byte{} })
	add("an exporter of 31", impl.ErrForm, func(x *impl.Session) { x.Exporter = someBytes(31) })
	add("an exporter of 33", impl.ErrForm, func(x *impl.Session) { x.Exporter = someBytes(33) })
	for _, role := range []int64{0, 3, -1, math.MinInt64, math.MaxInt64} {
		add(fmt.Sprintf("role %d", role), impl.ErrRange, func(x *impl.Session) { x.Role = role })
	}
	add("7 asked", impl.ErrMany, func(x *impl.Session) { x.Asked = contextsFrom(100, 7) })
	add("41 used", impl.ErrMany, func(x *impl.Session) { x.Used = contextsFrom(200, 41) })
	add("7 held", impl.ErrMany, func(x *impl.Session) { x.Held = heldOf(7) })
	for at := range 3 {
		add(fmt.Sprintf("nothing asked at %d", at), impl.ErrMany, func(x *impl.Session) { x.Asked[at] = nil })
		add(fmt.Sprintf("21 bytes asked at %d", at), impl.ErrMany, func(x *impl.Session) { x.Asked[at] = someBytes(21) })
		add(fmt.Sprintf("held far below at %d", at), impl.ErrRange, func(x *impl.Session) { x.Held[at].Cert = math.MinInt64 })
		add(fmt.Sprintf("held of 0 at %d", at), impl.ErrRange, func(x *impl.Session) { x.Held[at].Cert = 0 })
		add(fmt.Sprintf("held of 100 at %d", at), impl.ErrRange, func(x *impl.Session) { x.Held[at].Cert = 100 })
		add(fmt.Sprintf("held until -1 at %d", at), impl.ErrRange, func(x *impl.Session) { x.Held[at].Until = -1 })
		add(fmt.Sprintf("held until 10000 at %d", at), impl.ErrRange, func(x *impl.Session) { x.Held[at].Until = 10000 })
	}
	for at := range 5 {
		add(fmt.Sprintf("nothing used at %d", at), impl.ErrMany, func(x *impl.Session) { x.Used[at] = []byte{} })
		add(fmt.Sprintf("21 bytes used at %d", at), impl.ErrMany, func(x *impl.Session) { x.Used[at] = make([]byte, 21) })
		add(fmt.Sprintf("one of both, used at %d", at), impl.ErrTaken, func(x *impl.Session) { x.Used[at] = x.Asked[at%3] })
	}
	add("one asked twice", impl.ErrTaken, func(x *impl.Session) { x.Asked[2] = x.Asked[0] })
	add("one asked twice in a row", impl.ErrTaken, func(x *impl.Session) { x.Asked[1] = x.Asked[0] })
	add("one used twice", impl.ErrTaken, func(x *impl.Session) { x.Used[4] = x.Used[0] })
	add("one used twice in a row", impl.ErrTaken, func(x *impl.Session) { x.Used[4] = x.Used[3] })
	add("one held twice", impl.ErrForm, func(x *impl.Session) { x.Held[1] = x.Held[0] })
	add("one held twice, until another time", impl.ErrForm, func(x *impl.Session) { x.Held[2].Cert = x.Held[1].Cert })
	add("held ones that fall", impl.ErrForm, func(x *impl.Session) { slices.Reverse(x.Held) })
	add("the last one held falls", impl.ErrForm, func(x *impl.Session) { x.Held[2].Cert = x.Held[0].Cert + 1 })
	return list
}

// timesOfSessions and the like have the edges, inside the bounds and outside
// them.
func timesOfSessions() []int64 {
	return []int64{-1, 0, 1, 49, 50, 51, 149, 150, 151, 550, 551, 9998, 9999, 10000, 65536, 1 << 32, 1<<32 + 50, math.MinInt64, math.MaxInt64}
}

func tokensOf(t *testing.T, exporter []byte) [][]byte {
	t.Helper()
	list := append(lists(0, 1, 31, 32, 33, 64, 601), nil, make([]byte, 32), rising(32), exporter)
	if len(exporter) == 32 {
		own := bindByHand(t, exporter)
		list = append(list, own, own[:31], own[1:], append(bytes.Clone(own), 0), slices.Concat(own, own), authKeyByHand(t, exporter, 1, false), bindByHand(t, own))
	}
	return list
}

func TestSessionConstants(t *testing.T) {
	if impl.MaxAsked != 6 || impl.MaxHeld != 6 {
		t.Error(impl.MaxAsked, impl.MaxHeld)
	}
}

func TestSessionsKnown(t *testing.T) {
	// Digest, authenticator and token were reckoned by Python's hmac and hashlib.
	x := impl.Session{Exporter: make([]byte, 32), Role: impl.RoleClient, Asked: [][]byte{{6}, {7}, {8}}, Used: [][]byte{{5}}, Held: []impl.Held{{Cert: 9, Until: 1}}}
	signs := []impl.Sign{{Cert: 1, By: 2, Digest: hexed(t, "c1cf6939803842586e53dff0464c7501cf356582601deeac37fe1e72cbc27e47")}}
	data := hexed(t, "0107040102012c0100200200dff64a2edf6580ab9a52506e4854c450f2365b1284cccab24b24ea83abd5")
	certs := []impl.Cert{{Id: 1, Owner: 2, Until: 300}}
	heard := impl.Session{Exporter: make([]byte, 32), Role: impl.RoleClient, Asked: [][]byte{{6}, {8}}, Used: [][]byte{{5}, {7}}, Held: []impl.Held{{Cert: 1, Until: 300}, {Cert: 9, Until: 1}}}
	sameSession(t, "HearAuth", impl.HearAuth(x, certs, signs, 300, data), impl.SessionResult{Cert: 1, Session: heard})
	noSession(t, "HearAuth, too late", impl.HearAuth(x, certs, signs, 301, data), impl.ErrOld)
	noSession(t, "HearAuth once more", impl.HearAuth(heard, certs, signs, 300, data), impl.ErrState)
	x.Role = impl.RoleServer
	noSession(t, "HearAuth by who said it", impl.HearAuth(x, certs, signs, 300, data), impl.ErrSign)
	sameCode(t, "CheckToken", impl.CheckToken(x, hexed(t, "66c0b0fb9e00e57caab9266026994d0995fb785c0a863a9d87f057ae71eab43d")), impl.OK)
	sameCode(t, "CheckToken of another one", impl.CheckToken(x, hexed(t, "b35a57f325376cbb16afac17c03ef3217eee62988096ea59e3a3bf33421e8489")), impl.ErrSign)
}

func TestSessionFaultOfCounts(t *testing.T) {
	for _, exporter := range [][]byte{nil, {}, someBytes(31), make([]byte, 31), someBytes(32), make([]byte, 32), someBytes(33), someBytes(64)} {
		for _, role := range rolesAsked() {
			for _, asked := range []int{0, 1, 5, 6, 7, 8} {
				for _, used := range []int{0, 1, 33, 34, 35, 39, 40, 41, 42} {
					for _, held := range []int{0, 1, 5, 6, 7} {
						x := sessionOf(asked, used, held)
						x.Exporter, x.Role = exporter, role
						sameCode(t, fmt.Sprintf("%d bytes, role %d, %d asked, %d used, %d held", len(exporter), role, asked, used, held), impl.SessionFault(x), sessionFaultByHand(x))
					}
				}
			}
		}
	}
}

func TestSessionFaultOfOneFault(t *testing.T) {
	for _, x := range goodSessions() {
		sameCode(t, fmt.Sprintf("%+v", x), impl.SessionFault(x), impl.OK)
		sameCode(t, fmt.Sprintf("%+v by hand", x), sessionFaultByHand(x), impl.OK)
	}
	for _, w := range wrongSessions() {
		sameCode(t, w.name, impl.SessionFault(w.x), w.code)
		sameCode(t, w.name+" by hand", sessionFaultByHand(w.x), w.code)
	}
}

func TestSessionFaultOfContexts(t *testing.T) {
	// Each place, with contexts of each length, and with each that stands ahead or behind.
	whole := sessionOf(6, 40, 0)
	see := func(at int, context []byte) {
		t.Helper()
		x := cloneSession(whole)
		if at < 6 {
			x.Asked[at] = context
		} else {
			x.Used[at-6] = context
		}
		sameCode(t, fmt.Sprintf("%x at %d", context, at), impl.SessionFault(x), sessionFaultByHand(x))
	}
	all := slices.Concat(whole.Asked, whole.Used)
	for at := range all {
		see(at, nil)
		for n := range 24 {
			see(at, someBytes(n))
			see(at, make([]byte, n))
		}
		see(at, someBytes(256))
		see(at, someBytes(257))
		for _, other := range all {
			see(at, bytes.Clone(other))
			see(at, other[:len(other)-1])
			see(at, append(bytes.Clone(other), 0))
			see(at, changed(other, 8*len(other)-1))
		}
	}
}

func TestSessionFaultOfHeld(t *testing.T) {
	certs := []int64{math.MinInt64, -1, 0, 1, 2, 98, 99, 100, 257, math.MaxInt64}
	untils := []int64{math.MinInt64, -1, 0, 9999, 10000, 65536, math.MaxInt64}
	for _, a := range certs {
		for _, u := range untils {
			for _, b := range certs {
				for _, v := range untils {
					for _, list := range [][]impl.Held{{{Cert: a, Until: u}}, {{Cert: a, Until: u}, {Cert: b, Until: v}}, {{Cert: 1, Until: 5}, {Cert: a, Until: u}, {Cert: b, Until: v}}} {
						x := sessionOf(1, 1, 0)
						x.Held = list
						sameCode(t, fmt.Sprintf("held: %+v", list), impl.SessionFault(x), sessionFaultByHand(x))
					}
				}
			}
		}
	}
	// All orders of four, and those with two alike.
	visitAll([]byte{1, 2, 3, 4}, 4, func(data []byte) {
		x := sessionOf(0, 0, 0)
		for _, b := range data {
			x.Held = append(x.Held, impl.Held{Cert: int64(b), Until: 9 - int64(b)})
		}
		rises := slices.IsSorted(data) && len(slices.Compact(bytes.Clone(data))) == len(data)
		sameCode(t, fmt.Sprintf("held: %v", data), impl.SessionFault(x), whenForm(!rises))
	})
}

func TestSessionFaultCodesInOrder(t *testing.T) {
	// Each row has one wrong thing less than the one ahead.
	key, one, two := rising(32), []byte{1}, []byte{2}
	none, long := []byte{}, someBytes(21)
	far, falls := []impl.Held{{Cert: 5}, {Cert: 4}, {Cert: 100}}, []impl.Held{{Cert: 5}, {Cert: 4}}
	seven := append(heldOf(6), far...)
	rows := []struct {
		x    impl.Session
		code int64
	}{
		{impl.Session{}, impl.ErrForm},
		{impl.Session{Exporter: someBytes(31), Role: 3, Asked: make([][]byte, 7), Used: make([][]byte, 41), Held: seven}, impl.ErrForm},
		{impl.Session{Exporter: key, Asked: make([][]byte, 7), Used: make([][]byte, 41), Held: seven}, impl.ErrRange},
		{impl.Session{Exporter: key, Role: 3, Asked: make([][]byte, 7), Used: make([][]byte, 41), Held: seven}, impl.ErrRange},
		{impl.Session{Exporter: key, Role: 1, Asked: make([][]byte, 7), Used: make([][]byte, 41), Held: seven}, impl.ErrMany},
		// Too many of one kind are told ahead of what is wrong in the others.
		{impl.Session{Exporter: key, Role: 1, Asked: [][]byte{one, one}, Used: contextsFrom(200, 41), Held: far}, impl.ErrMany},
		{impl.Session{Exporter: key, Role: 1, Asked: [][]byte{one, one}, Used: [][]byte{one}, Held: seven}, impl.ErrMany},
		{impl.Session{Exporter: key, Role: 1, Asked: contextsFrom(100, 7), Used: [][]byte{one, one}, Held: falls}, impl.ErrMany},
		// Element by element: what stands first is told, Asked ahead of Used.
		{impl.Session{Exporter: key, Role: 1, Asked: [][]byte{one, one, none}, Used: [][]byte{long}, Held: far}, impl.ErrTaken},
		{impl.Session{Exporter: key, Role: 1, Asked: [][]byte{one, none, one}, Used: [][]byte{one}, Held: far}, impl.ErrMany},
		{impl.Session{Exporter: key, Role: 1, Asked: [][]byte{none, none}, Used: [][]byte{one}, Held: far}, impl.ErrMany},
		{impl.Session{Exporter: key, Role: 1, Asked: [][]byte{long, long}, Used: [][]byte{one}, Held: far}, impl.ErrMany},
		{impl.Session{Exporter: key, Role: 1, Asked: [][]byte{one, two, two}, Used: [][]byte{none}, Held: far}, impl.ErrTaken},
		{impl.Session{Exporter: key, Role: 1, Asked: [][]byte{two, one}, Used: [][]byte{one, none}, Held: far}, impl.ErrTaken},
		{impl.Session{Exporter: key, Role: 1, Asked: [][]byte{two, one}, Used: [][]byte{long, one}, Held: far}, impl.ErrMany},
		{impl.Session{Exporter: key, Role: 1, Asked: [][]byte{one, two}, Used: [][]byte{{3}, {3}}, Held: far}, impl.ErrTaken},
		// All that are held are asked for their bounds ahead of their order.
		{impl.Session{Exporter: key, Role: 1, Asked: [][]byte{one, two}, Used: [][]byte{{3}}, Held: far}, impl.ErrRange},
		{impl.Session{Exporter: key, Role: 1, Asked: [][]byte{one, two}, Used: [][]byte{{3}}, Held: []impl.Held{{Cert: 5}, {Cert: 4}, {Cert: 6, Until: 10000}}}, impl.ErrRange},
		{impl.Session{Exporter: key, Role: 2, Asked: [][]byte{one, two}, Used: [][]byte{{3}}, Held: falls}, impl.ErrForm},
		{impl.Session{Exporter: key, Role: 2, Asked: [][]byte{one, two}, Used: [][]byte{{3}}, Held: falls[1:]}, impl.OK},
	}
	for i, r := range rows {
		name := fmt.Sprintf("row %d", i)
		sameCode(t, name, impl.SessionFault(r.x), r.code)
		sameCode(t, name+" by hand", sessionFaultByHand(r.x), r.code)
		if r.code == impl.OK {
			continue
		}
		// All others ask it first, whatever else is wrong.
		noSession(t, name+": AskContext", impl.AskContext(r.x, nil), r.code)
		noSession(t, name+": HearAuth", impl.HearAuth(r.x, someCerts(9), someSigns(41), -1, nil), r.code)
		noSession(t, name+": RevokeIn", impl.RevokeIn(r.x, 0), r.code)
		noSession(t, name+": TimeIn", impl.TimeIn(r.x, -1), r.code)
		sameBool(t, name+": HoldsNow", impl.HoldsNow(r.x, 5, 0), false)
		sameCode(t, name+": CheckToken", impl.CheckToken(r.x, nil), r.code)
	}
}

func TestNewSession(t *testing.T) {
	for _, exporter := range exportersOfAuths() {
		for _, role := range rolesAsked() {
			name := fmt.Sprintf("NewSession of %d bytes, role %d", len(exporter), role)
			got := impl.NewSession(exporter, role)
			sameSession(t, name, got, newByHand(exporter, role))
			if got.Code == impl.OK {
				sameCode(t, name+": its fault", impl.SessionFault(got.Session), impl.OK)
			}
		}
	}
	noSession(t, "both wrong", impl.NewSession(nil, 0), impl.ErrForm)
	noSession(t, "a wrong role", impl.NewSession(rising(32), 3), impl.ErrRange)
}

func TestAskContextAsksAll(t *testing.T) {
	sessions := goodSessions()
	for _, w := range wrongSessions() {
		sessions = append(sessions, w.x)
	}
	for asked := range 8 {
		for _, used := range []int{0, 33, 34, 35, 36, 37, 38, 39, 40, 41} {
			sessions = append(sessions, sessionOf(asked, used, 2))
		}
	}
	for i, x := range sessions {
		contexts := slices.Concat(contextsAsked(), x.Asked, x.Used, [][]byte{{0}, {77}, contextOf(99), contextOf(300)})
		for _, context := range contexts {
			got := impl.AskContext(x, context)
			sameSession(t, fmt.Sprintf("AskContext of session %d, %x", i, context), got, askByHand(x, context))
			if got.Code == impl.OK {
				sameCode(t, "what was asked has no fault", impl.SessionFault(got.Session), impl.OK)
			}
		}
	}
}

func TestAskContextCodesInOrder(t *testing.T) {
	full, long := sessionOf(6, 40, 6), someBytes(21)
	rows := []struct {
		x       impl.Session
		context []byte
		code    int64
	}{
		{changing(full, func(x *impl.Session) { x.Role = 0 }), long, impl.ErrRange},
		{changing(full, func(x *impl.Session) { x.Held[5].Cert = 2 }), long, impl.ErrForm},
		{full, long, impl.ErrMany},
		{full, nil, impl.ErrMany},
		{full, []byte{}, impl.ErrMany},
		{full, contextOf(100), impl.ErrTaken},
		{full, contextOf(105), impl.ErrTaken},
		{full, contextOf(200), impl.ErrTaken},
		{full, contextOf(239), impl.ErrTaken},
		{full, []byte{9}, impl.ErrLimit},
		{sessionOf(6, 0, 0), []byte{9}, impl.ErrLimit},
		{sessionOf(6, 33, 0), []byte{9}, impl.ErrLimit},
		{sessionOf(0, 40, 0), []byte{9}, impl.ErrLimit},
		{sessionOf(1, 39, 0), []byte{9}, impl.ErrLimit},
		{sessionOf(5, 35, 0), []byte{9}, impl.ErrLimit},
		{sessionOf(5, 36, 0), []byte{9}, impl.ErrLimit},
		{sessionOf(5, 40, 0), []byte{9}, impl.ErrLimit},
		{sessionOf(1, 40, 0), []byte{9}, impl.ErrLimit},
		{sessionOf(5, 34, 6), []byte{9}, impl.OK},
		{sessionOf(0, 39, 6), []byte{9}, impl.OK},
		{sessionOf(5, 0, 6), someBytes(20), impl.OK},
		{sessionOf(0, 0, 0), []byte{0}, impl.OK},
	}
	for i, r := range rows {
		got := impl.AskContext(r.x, r.context)
		sameCode(t, fmt.Sprintf("row %d", i), got.Code, r.code)
		sameSession(t, fmt.Sprintf("row %d", i), got, askByHand(r.x, r.context))
	}
}

func TestHearAuthAsksAll(t *testing.T) {
	x := sessionOf(3, 2, 2)
	c := impl.Cert{Id: 1, Owner: 2, Until: 300}
	good := telling(t, x, x.Asked[1], c, 1)
	sessions := []impl.Session{x, sessionOf(3, 40, 2), sessionOf(3, 39, 6), sessionOf(3, 40, 6), sessionOf(6, 5, 5), sessionOf(0, 3, 0), sessionOf(1, 0, 0),
		changing(x, func(x *impl.Session) { x.Role = 2 }), changing(x, func(x *impl.Session) { x.Exporter[0] ^= 1 }),
		changing(x, func(x *impl.Session) { x.Held[0].Cert = 1 }), changing(sessionOf(2, 1, 6), func(x *impl.Session) { x.Held[0] = impl.Held{Cert: 1, Until: 9999} })}
	for _, w := range wrongSessions() {
		sessions = append(sessions, w.x)
	}
	certs := [][]impl.Cert{nil, {c}, good.certs, {c, c}, someCerts(9)}
	signs := [][]impl.Sign{nil, good.signs, someSigns(40), someSigns(41)}
	datas := [][]byte{nil, good.data, good.data[1:], changed(good.data, 8*len(good.data)-1),
		telling(t, x, x.Asked[0], c, 1).data, telling(t, x, []byte{9}, c, 1).data, telling(t, changing(x, func(x *impl.Session) { x.Role = 2 }), x.Asked[1], c, 1).data}
	for i, x := range sessions {
		for _, c := range certs {
			for _, s := range signs {
				for _, now := range []int64{math.MinInt64, -1, 0, 300, 301, 9999, 10000, math.MaxInt64} {
					for _, data := range datas {
						h := hearing{x, c, s, now, data}
						sameSession(t, fmt.Sprintf("session %d, %d certificates, %d signatures, now %d, data %x", i, len(c), len(s), now, data), h.ask(), h.byHand(t))
					}
				}
			}
		}
	}
}

func TestHearAuthOfEachSession(t *testing.T) {
	for i, x := range goodSessions() {
		for at, context := range x.Asked {
			for _, c := range certsOfEdges() {
				h := telling(t, x, context, c, int64(at))
				got := h.ask()
				sameSession(t, fmt.Sprintf("session %d hears %x of %+v", i, context, c), got, h.byHand(t))
				if got.Code == impl.OK {
					sameCode(t, "what was heard has no fault", impl.SessionFault(got.Session), impl.OK)
				}
			}
		}
		for _, context := range append(x.Used, []byte{77}) {
			h := telling(t, x, context, impl.Cert{Id: 3, Owner: 4, Until: 5}, 3)
			noSession(t, fmt.Sprintf("session %d hears %x, not asked for", i, context), h.ask(), impl.ErrState)
		}
	}
}

func TestHearAuthCodesInOrder(t *testing.T) {
	// Each row has one wrong thing less than the one ahead.
	x := sessionOf(3, 40, 6)
	c := impl.Cert{Id: 1, Owner: 2, Until: 300}
	m := making{x.Exporter, 2, []byte{9}, c, 0}
	other := telling(t, x, []byte{9}, c, 0)
	good := telling(t, x, x.Asked[2], c, 0)
	forged := authBytes([]byte{9}, certByHand(c), []byte{0}, someBytes(32))
	own := making{x.Exporter, 1, x.Asked[2], c, 0}
	again := telling(t, x, x.Asked[2], impl.Cert{Id: 18, Owner: 2, Until: 300}, 0)
	roomOf := func(used int, held int) impl.Session { return sessionOf(3, used, held) }
	rows := []struct {
		h    hearing
		code int64
	}{
		{hearing{impl.Session{}, someCerts(9), someSigns(41), -1, nil}, impl.ErrForm},
		{hearing{changing(x, func(x *impl.Session) { x.Role = 0 }), someCerts(9), someSigns(41), -1, nil}, impl.ErrRange},
		{hearing{changing(x, func(x *impl.Session) { x.Used[39] = x.Asked[0] }), someCerts(9), someSigns(41), -1, nil}, impl.ErrTaken},
		{hearing{x, someCerts(9), someSigns(41), -1, nil}, impl.ErrMany},
		{hearing{x, []impl.Cert{c, {}}, someSigns(41), -1, nil}, impl.ErrRange},
		{hearing{x, []impl.Cert{c, c}, someSigns(41), -1, nil}, impl.ErrTaken},
		{hearing{x, nil, someSigns(41), -1, nil}, impl.ErrMany},
		{hearing{x, nil, make([]impl.Sign, 1), -1, nil}, impl.ErrRange},
		{hearing{x, nil, []impl.Sign{{Cert: 1}}, -1, nil}, impl.ErrForm},
		{hearing{x, nil, nil, -1, nil}, impl.ErrRange},
		{hearing{x, nil, nil, 10000, nil}, impl.ErrRange},
		{hearing{x, nil, nil, 9999, nil}, impl.ErrText},
		{hearing{x, nil, nil, 9999, forged}, impl.ErrNone},
		{hearing{x, []impl.Cert{c}, nil, 9999, forged}, impl.ErrOld},
		{hearing{x, []impl.Cert{c}, nil, 301, forged}, impl.ErrOld},
		{hearing{x, []impl.Cert{c}, nil, 300, forged}, impl.ErrSign},
		{hearing{x, []impl.Cert{c}, other.signs, 300, forged}, impl.ErrSign},
		{hearing{x, []impl.Cert{c}, signedFor(t, own, 1), 300, own.byHand(t).Bytes}, impl.ErrSign},
		{hearing{x, []impl.Cert{c}, signedFor(t, m, 1), 300, other.data}, impl.ErrState},
		{hearing{x, good.certs, good.signs, 300, good.data}, impl.ErrLimit},
		{hearing{roomOf(40, 5), good.certs, good.signs, 300, good.data}, impl.ErrLimit},
		{hearing{roomOf(40, 0), good.certs, good.signs, 300, good.data}, impl.ErrLimit},
		{hearing{roomOf(40, 6), again.certs, again.signs, 300, again.data}, impl.ErrLimit},
		{hearing{roomOf(40, 2), again.certs, again.signs, 300, again.data}, impl.ErrLimit},
		{hearing{roomOf(39, 6), good.certs, good.signs, 300, good.data}, impl.ErrLimit},
		{hearing{roomOf(0, 6), good.certs, good.signs, 300, good.data}, impl.ErrLimit},
		{hearing{roomOf(39, 6), again.certs, again.signs, 300, again.data}, impl.OK},
		{hearing{roomOf(39, 5), good.certs, good.signs, 300, good.data}, impl.OK},
		{hearing{roomOf(0, 0), good.certs, good.signs, 300, good.data}, impl.OK},
	}
	for i, r := range rows {
		got := r.h.ask()
		sameCode(t, fmt.Sprintf("row %d", i), got.Code, r.code)
		sameSession(t, fmt.Sprintf("row %d", i), got, r.h.byHand(t))
	}
}

func TestRevokeIn(t *testing.T) {
	for i, x := range goodSessions() {
		for cert := int64(-2); cert < 103; cert++ {
			sameSession(t, fmt.Sprintf("session %d without %d", i, cert), impl.RevokeIn(x, cert), revokeByHand(x, cert))
		}
		for _, cert := range idsAsked() {
			sameSession(t, fmt.Sprintf("session %d without %d", i, cert), impl.RevokeIn(x, cert), revokeByHand(x, cert))
		}
	}
	for _, w := range wrongSessions() {
		for _, cert := range []int64{2, 18, 0, 100, math.MinInt64} {
			noSession(t, w.name, impl.RevokeIn(w.x, cert), w.code)
		}
	}
	noSession(t, "one that is not held", impl.RevokeIn(sessionOf(1, 1, 6), 3), impl.ErrNone)
	noSession(t, "one that has no such number", impl.RevokeIn(sessionOf(1, 1, 6), 0), impl.ErrNone)
}

func TestTimeIn(t *testing.T) {
	for i, x := range goodSessions() {
		for _, now := range timesOfSessions() {
			got := impl.TimeIn(x, now)
			sameSession(t, fmt.Sprintf("session %d at %d", i, now), got, timeByHand(x, now))
			sameCode(t, fmt.Sprintf("session %d at %d", i, now), got.Code, whenRange(now < 0 || now > 9999))
		}
	}
	for _, w := range wrongSessions() {
		for _, now := range timesOfSessions() {
			noSession(t, w.name, impl.TimeIn(w.x, now), w.code)
		}
	}
}

func TestHoldsNow(t *testing.T) {
	for i, x := range goodSessions() {
		for _, cert := range append(idsAsked(), 18, 34, 66, 82) {
			for _, now := range timesOfSessions() {
				sameBool(t, fmt.Sprintf("session %d holds %d at %d", i, cert, now), impl.HoldsNow(x, cert, now), holdsByHand(x, cert, now))
			}
		}
	}
	for _, w := range wrongSessions() {
		for _, h := range w.x.Held {
			for _, now := range timesOfSessions() {
				sameBool(t, w.name, impl.HoldsNow(w.x, h.Cert, now), false)
			}
		}
	}
	// Now has no bounds of its own: it is held against Until alone.
	x := changing(sessionOf(0, 0, 0), func(x *impl.Session) { x.Held = []impl.Held{{Cert: 1, Until: 0}, {Cert: 99, Until: 9999}} })
	rows := []struct {
		cert, now int64
		want      bool
	}{
		{1, math.MinInt64, true}, {1, -1, true}, {1, 0, true}, {1, 1, false}, {1, math.MaxInt64, false},
		{99, -1, true}, {99, 0, true}, {99, 9998, true}, {99, 9999, true}, {99, 10000, false}, {99, math.MaxInt64, false},
		{0, 0, false}, {2, 0, false}, {98, 0, false}, {100, 0, false}, {math.MinInt64, -1, false}, {math.MaxInt64, -1, false},
	}
	for _, r := range rows {
		sameBool(t, fmt.Sprintf("%d at %d", r.cert, r.now), impl.HoldsNow(x, r.cert, r.now), r.want)
	}
}

func TestCheckToken(t *testing.T) {
	for i, x := range goodSessions() {
		for _, token := range tokensOf(t, x.Exporter) {
			sameCode(t, fmt.Sprintf("session %d, token %x", i, token), impl.CheckToken(x, token), tokenByHand(t, x, token))
		}
	}
	for _, w := range wrongSessions() {
		for _, token := range tokensOf(t, w.x.Exporter) {
			sameCode(t, w.name, impl.CheckToken(w.x, token), w.code)
		}
	}
}

func TestP15ATokenIsTakenJustWhereItIsThatOfTheSession(t *testing.T) {
	for _, exporter := range goodKeys() {
		own := impl.BindOf(exporter).Bytes
		for _, role := range []int64{1, 2} {
			x := impl.NewSession(exporter, role).Session
			sameCode(t, "its own", impl.CheckToken(x, own), impl.OK)
			for bit := range 8 * len(own) {
				sameCode(t, fmt.Sprintf("changed at bit %d", bit), impl.CheckToken(x, changed(own, bit)), impl.ErrSign)
			}
			for n := range own {
				sameCode(t, fmt.Sprintf("cut to %d", n), impl.CheckToken(x, own[:n]), impl.ErrSign)
				sameCode(t, fmt.Sprintf("cut ahead by %d", n+1), impl.CheckToken(x, own[n+1:]), impl.ErrSign)
				sameCode(t, fmt.Sprintf("lengthened by %d", n+1), impl.CheckToken(x, slices.Concat(own, make([]byte, n+1))), impl.ErrSign)
			}
			for bit := range 256 {
				near := changing(x, func(x *impl.Session) { x.Exporter = changed(x.Exporter, bit) })
				sameCode(t, "of another session", impl.CheckToken(near, own), impl.ErrSign)
				sameCode(t, "of the session that it is of", impl.CheckToken(near, impl.BindOf(near.Exporter).Bytes), impl.OK)
			}
		}
	}
	// Whatever else is in the session, the token is the same, for both ends.
	for _, k := range keyPairs() {
		pair := impl.PairOf(k.client, k.server)
		client, server := impl.NewSession(pair.Client.Secrets.Exporter, 1).Session, impl.NewSession(pair.Server.Secrets.Exporter, 2).Session
		token := impl.BindOf(pair.Server.Secrets.Exporter).Bytes
		sameCode(t, k.name+": client", impl.CheckToken(client, token), impl.OK)
		sameCode(t, k.name+": server", impl.CheckToken(server, token), impl.OK)
		asked := impl.AskContext(client, []byte{1}).Session
		sameCode(t, k.name+": one that asked", impl.CheckToken(asked, token), impl.OK)
		told := telling(t, asked, []byte{1}, impl.Cert{Id: 5, Owner: 5, Until: 5}, 2).ask().Session
		sameCode(t, k.name+": one that heard", impl.CheckToken(told, token), impl.OK)
	}
}

func TestP15AContextIsAskedForOnce(t *testing.T) {
	for _, n := range []int{1, 2, 19, 20} {
		x := impl.NewSession(rising(32), 2).Session
		context := someBytes(n)
		asked := impl.AskContext(x, context).Session
		sameSession(t, "asked", impl.SessionResult{Session: asked}, impl.SessionResult{Session: impl.Session{Exporter: rising(32), Role: 2, Asked: [][]byte{context}}})
		noSession(t, "asked again", impl.AskContext(asked, context), impl.ErrTaken)
		more := impl.AskContext(asked, []byte("another")).Session
		noSession(t, "asked again behind another one", impl.AskContext(more, context), impl.ErrTaken)
		used := telling(t, more, context, impl.Cert{Id: 1, Owner: 1, Until: 1}, 0).ask().Session
		noSession(t, "asked again when it is used", impl.AskContext(used, context), impl.ErrTaken)
		over := impl.TimeIn(impl.RevokeIn(used, 1).Session, 9999).Session
		noSession(t, "asked again when what it brought is gone", impl.AskContext(over, context), impl.ErrTaken)
		// What is another one is asked for, however near it is.
		for bit := range 8 * n {
			sameSession(t, "one near it", impl.AskContext(used, changed(context, bit)), askByHand(used, changed(context, bit)))
			sameCode(t, "one near it", impl.AskContext(used, changed(context, bit)).Code, impl.OK)
		}
		if n < 20 {
			sameCode(t, "one that is longer", impl.AskContext(used, append(bytes.Clone(context), 0)).Code, impl.OK)
		}
		if n > 1 {
			sameCode(t, "one that is shorter", impl.AskContext(used, context[:n-1]).Code, impl.OK)
		}
	}
}

func TestP15AskedAtAnyPlaceIsNotAskedForAgain(t *testing.T) {
	for _, x := range goodSessions() {
		for at, context := range slices.Concat(x.Asked, x.Used) {
			noSession(t, fmt.Sprintf("the one at %d", at), impl.AskContext(x, context), impl.ErrTaken)
			noSession(t, fmt.Sprintf("a copy of the one at %d", at), impl.AskContext(x, bytes.Clone(context)), impl.ErrTaken)
		}
	}
}

func TestP15WhatIsHeardIsAnsweredOnce(t *testing.T) {
	c := impl.Cert{Id: 40, Owner: 3, Until: 700}
	for n := 1; n <= 6; n++ {
		for at := range n {
			for _, used := range []int{0, 1, 20, 39} {
				for _, role := range []int64{1, 2} {
					x := sessionOf(n, used, 3)
					x.Role = role
					h := telling(t, x, x.Asked[at], c, 4)
					got := h.ask()
					name := fmt.Sprintf("%d of %d, with %d used, role %d", at, n, used, role)
					want := impl.Session{Exporter: x.Exporter, Role: role, Asked: slices.Concat(x.Asked[:at], x.Asked[at+1:]), Used: slices.Concat(x.Used, x.Asked[at:at+1]),
						Held: []impl.Held{{Cert: 2, Until: 50}, {Cert: 18, Until: 150}, {Cert: 34, Until: 250}, {Cert: 40, Until: 700}}}
					sameSession(t, name, got, impl.SessionResult{Cert: 40, Session: want})
					// The same once more, and what is made anew for the same context.
					h.x = got.Session
					noSession(t, name+": again", h.ask(), impl.ErrState)
					noSession(t, name+": of another certificate", telling(t, got.Session, x.Asked[at], impl.Cert{Id: 41, Owner: 3, Until: 700}, 5).ask(), impl.ErrState)
					noSession(t, name+": asked for again", impl.AskContext(got.Session, x.Asked[at]), impl.ErrTaken)
					h.x = impl.RevokeIn(got.Session, 40).Session
					noSession(t, name+": again, revoked", h.ask(), impl.ErrState)
				}
			}
		}
	}
}

func TestP15AllThatIsAskedIsAnsweredInAnyOrder(t *testing.T) {
	x := sessionOf(4, 3, 0)
	visitAll([]byte{0, 1, 2, 3}, 4, func(order []byte) {
		if len(order) != 4 {
			return
		}
		now, seen := x, map[byte]bool{}
		for i, b := range order {
			h := telling(t, now, x.Asked[b], impl.Cert{Id: int64(60 - 7*i), Owner: 1, Until: int64(i)}, int64(i))
			got := h.ask()
			sameCode(t, fmt.Sprintf("%v at %d", order, i), got.Code, whenState(seen[b]))
			sameSession(t, fmt.Sprintf("%v at %d", order, i), got, h.byHand(t))
			if got.Code == impl.OK {
				now = got.Session
			}
			seen[b] = true
		}
		if len(now.Asked) != 4-len(seen) || len(now.Used) != 3+len(seen) || len(now.Held) != len(seen) {
			t.Errorf("%v: %+v", order, now)
		}
	})
}

func TestP15WhatWasNotAskedForIsNotHeard(t *testing.T) {
	c := impl.Cert{Id: 7, Owner: 7, Until: 7}
	for _, x := range goodSessions() {
		for _, context := range slices.Concat(x.Used, [][]byte{{77}, contextOf(99), make([]byte, 19)}) {
			noSession(t, fmt.Sprintf("%x", context), telling(t, x, context, c, 0).ask(), impl.ErrState)
		}
		for _, context := range x.Asked {
			for _, near := range [][]byte{changed(context, 0), changed(context, 8*len(context)-1), context[1:], append(bytes.Clone(context), 0)} {
				if hasNoContext(near) || hasContext(x.Asked, near) {
					continue
				}
				noSession(t, fmt.Sprintf("%x instead of %x", near, context), telling(t, x, near, c, 0).ask(), impl.ErrState)
			}
		}
	}
}

func TestP15OwnRoleAndOtherExportersAreNotHeard(t *testing.T) {
	c := impl.Cert{Id: 7, Owner: 7, Until: 7}
	for _, role := range []int64{1, 2} {
		x := sessionOf(2, 1, 1)
		x.Role = role
		context := x.Asked[0]
		sameCode(t, "what the other one says", telling(t, x, context, c, 0).ask().Code, impl.OK)
		// What this side said itself, for the same context, comes back to it.
		own := believing(t, making{x.Exporter, role, context, c, 0})
		noSession(t, "its own", hearing{x, own.certs, own.signs, own.now, own.data}.ask(), impl.ErrSign)
		// Both are signed: still only that of the other one is heard.
		other := making{x.Exporter, 3 - role, context, c, 1}
		both := []impl.Sign{own.signs[0], {Cert: 7, By: 7, Digest: other.digestByHand(t).Bytes}}
		noSession(t, "its own, of both", hearing{x, own.certs, both, own.now, own.data}.ask(), impl.ErrSign)
		sameCode(t, "the other one, of both", hearing{x, own.certs, both, own.now, other.byHand(t).Bytes}.ask().Code, impl.OK)
		for bit := 0; bit < 256; bit += 3 {
			// Made for another link, and signed there.
			far := changing(x, func(x *impl.Session) { x.Exporter = changed(x.Exporter, bit) })
			h := telling(t, far, context, c, 0)
			sameCode(t, "where it was made for", h.ask().Code, impl.OK)
			h.x = x
			noSession(t, "of another exporter", h.ask(), impl.ErrSign)
		}
	}
}

func TestP15ASignatureIsAskedForByWhoHears(t *testing.T) {
	c := impl.Cert{Id: 7, Owner: 7, Until: 7}
	x := sessionOf(2, 1, 1)
	good := telling(t, x, x.Asked[0], c, 3)
	sameCode(t, "all as it has to be", good.ask().Code, impl.OK)
	for bit := range 8 * len(good.data) {
		h := good.clone()
		h.data = changed(good.data, bit)
		got := h.ask()
		sameSession(t, fmt.Sprintf("changed at bit %d", bit), got, h.byHand(t))
		sameBool(t, fmt.Sprintf("changed at bit %d", bit), got.Code == impl.OK, false)
	}
	h := good.clone()
	h.signs = good.signs[:3]
	noSession(t, "ahead of its signature", h.ask(), impl.ErrSign)
	h = good.clone()
	h.certs = nil
	noSession(t, "a certificate that nobody knows", h.ask(), impl.ErrNone)
	h.certs = []impl.Cert{{Id: 7, Owner: 7, Until: 8}}
	noSession(t, "a certificate that is another one by now", h.ask(), impl.ErrNone)
	h = good.clone()
	h.now = 8
	noSession(t, "a certificate that is over", h.ask(), impl.ErrOld)
}

func TestP15HeldAgainIsHeldOnce(t *testing.T) {
	for _, n := range []int{1, 2, 5, 6} {
		for at := range n {
			for _, until := range []int64{0, 49, 50, 51, 9999} {
				x := sessionOf(2, 1, n)
				c := impl.Cert{Id: x.Held[at].Cert, Owner: 4, Until: until}
				name := fmt.Sprintf("%d of %d again, until %d", at, n, until)
				got := telling(t, x, x.Asked[1], c, 0).ask()
				want := impl.Session{Exporter: x.Exporter, Role: 1, Asked: x.Asked[:1], Used: [][]byte{x.Used[0], x.Asked[1]}, Held: slices.Clone(x.Held)}
				want.Held[at].Until = until
				sameSession(t, name, got, impl.SessionResult{Cert: c.Id, Session: want})
				sameBool(t, name+": until then", impl.HoldsNow(got.Session, c.Id, until), true)
				sameBool(t, name+": behind it", impl.HoldsNow(got.Session, c.Id, until+1), false)
				// And once more, for what is still asked for.
				again := telling(t, got.Session, x.Asked[0], c, 0).ask()
				want.Asked, want.Used = nil, [][]byte{x.Used[0], x.Asked[1], x.Asked[0]}
				sameSession(t, name+": twice", again, impl.SessionResult{Cert: c.Id, Session: want})
			}
		}
	}
}

func TestP15HeldStaysRising(t *testing.T) {
	for n := range 7 {
		for id := int64(1); id <= 99; id++ {
			x := sessionOf(1, 0, n)
			c := impl.Cert{Id: id, Owner: 4, Until: 77}
			got := telling(t, x, x.Asked[0], c, 0).ask()
			name := fmt.Sprintf("%d with %d held", id, n)
			again := holdsCert(x.Held, id)
			sameCode(t, name, got.Code, whenLimit(n == 6 && !again))
			if got.Code != impl.OK {
				noSession(t, name, got, impl.ErrLimit)
				continue
			}
			sameSession(t, name, got, impl.SessionResult{Cert: id, Session: impl.Session{Exporter: x.Exporter, Role: 1, Used: x.Asked, Held: heldWith(x.Held, c)}})
			for i := 1; i < len(got.Session.Held); i++ {
				if got.Session.Held[i-1].Cert >= got.Session.Held[i].Cert {
					t.Errorf("%s: %+v does not rise", name, got.Session.Held)
				}
			}
		}
	}
}

func TestP15NoRoomLeavesTheContextAsked(t *testing.T) {
	// What finds no room is heard as soon as there is some.
	x := sessionOf(2, 1, 6)
	c := impl.Cert{Id: 99, Owner: 4, Until: 9999}
	h := telling(t, x, x.Asked[0], c, 0)
	noSession(t, "with six held", h.ask(), impl.ErrLimit)
	for _, held := range x.Held {
		h.x = impl.RevokeIn(x, held.Cert).Session
		got := h.ask()
		sameSession(t, "one is revoked", got, h.byHand(t))
		sameCode(t, "one is revoked", got.Code, impl.OK)
		h.x = got.Session
		noSession(t, "again", h.ask(), impl.ErrState)
	}
	h.x = impl.TimeIn(x, 50).Session
	noSession(t, "none is over", h.ask(), impl.ErrLimit)
	h.x = impl.TimeIn(x, 51).Session
	sameCode(t, "one is over", h.ask().Code, impl.OK)
}

func TestP15RevokedOrOverIsShownAgain(t *testing.T) {
	for _, n := range []int{1, 3, 6} {
		x := sessionOf(3, 2, n)
		for at, held := range x.Held {
			name := fmt.Sprintf("%d of %d", at, n)
			c := impl.Cert{Id: held.Cert, Owner: 9, Until: 9000}
			revoked := impl.RevokeIn(x, held.Cert).Session
			sameBool(t, name+": revoked", impl.HoldsNow(revoked, held.Cert, 0), false)
			noSession(t, name+": revoked again", impl.RevokeIn(revoked, held.Cert), impl.ErrNone)
			back := telling(t, revoked, x.Asked[1], c, 0).ask()
			sameSession(t, name+": shown again", back, impl.SessionResult{Cert: c.Id, Session: impl.Session{Exporter: x.Exporter, Role: 1,
				Asked: [][]byte{x.Asked[0], x.Asked[2]}, Used: [][]byte{x.Used[0], x.Used[1], x.Asked[1]}, Held: heldWith(x.Held, c)}})
			sameBool(t, name+": shown again", impl.HoldsNow(back.Session, held.Cert, 9000), true)
			// One that is over comes back with a certificate that counts longer; the old one does not.
			over := impl.TimeIn(x, held.Until+1).Session
			sameBool(t, name+": over", impl.HoldsNow(over, held.Cert, 0), false)
			old := telling(t, over, x.Asked[0], impl.Cert{Id: held.Cert, Owner: 9, Until: held.Until}, 0)
			old.now = held.Until + 1
			noSession(t, name+": over, as it was", old.ask(), impl.ErrOld)
			longer := telling(t, over, x.Asked[0], c, 0)
			longer.now = held.Until + 1
			got := longer.ask()
			sameSession(t, name+": over, shown again", got, longer.byHand(t))
			sameBool(t, name+": over, shown again", impl.HoldsNow(got.Session, held.Cert, 9000), true)
		}
	}
}

func TestP15WhatIsRevokedIsGoneAlone(t *testing.T) {
	for i, x := range goodSessions() {
		for at, held := range x.Held {
			name := fmt.Sprintf("session %d without the one at %d", i, at)
			sameBool(t, name+": ahead", impl.HoldsNow(x, held.Cert, held.Until), true)
			got := impl.RevokeIn(x, held.Cert)
			want := changing(x, func(x *impl.Session) { x.Held = slices.Concat(x.Held[:at], x.Held[at+1:]) })
			sameSession(t, name, got, impl.SessionResult{Session: want})
			for _, other := range x.Held {
				sameBool(t, name+": holds", impl.HoldsNow(got.Session, other.Cert, other.Until), other != held)
			}
		}
		// All of them, one behind the other.
		now := x
		for _, held := range x.Held {
			now = impl.RevokeIn(now, held.Cert).Session
		}
		none := changing(x, func(x *impl.Session) { x.Held = nil })
		sameSession(t, fmt.Sprintf("session %d, all revoked", i), impl.SessionResult{Session: now}, impl.SessionResult{Session: none})
	}
}

func TestP15WhatIsOverIsGoneAlone(t *testing.T) {
	untils := []int64{0, 5, 5, 9998, 9999, 6}
	x := sessionOf(2, 3, 6)
	for i := range x.Held {
		x.Held[i].Until = untils[i]
	}
	for _, now := range []int64{0, 1, 4, 5, 6, 7, 9997, 9998, 9999} {
		name := fmt.Sprintf("at %d", now)
		var left []impl.Held
		for _, h := range x.Held {
			if h.Until >= now {
				left = append(left, h)
			}
		}
		got := impl.TimeIn(x, now)
		sameSession(t, name, got, impl.SessionResult{Session: changing(x, func(x *impl.Session) { x.Held = left })})
		sameSession(t, name+": again", impl.TimeIn(got.Session, now), got)
		for _, h := range x.Held {
			sameBool(t, name+": holds", impl.HoldsNow(got.Session, h.Cert, now), h.Until >= now)
			sameBool(t, name+": held", impl.HoldsNow(x, h.Cert, now), h.Until >= now)
			sameBool(t, name+": held at first", impl.HoldsNow(got.Session, h.Cert, 0), h.Until >= now)
		}
		// Time that goes on in two steps, or back, leaves no more than the later one.
		for _, then := range []int64{0, 5, 6, 9999} {
			sameSession(t, name+": two steps", impl.TimeIn(got.Session, then), impl.TimeIn(x, max(now, then)))
		}
	}
}

func TestP15OverAtEachTime(t *testing.T) {
	x := changing(sessionOf(1, 1, 0), func(x *impl.Session) { x.Held = []impl.Held{{Cert: 3, Until: 400}} })
	for now := int64(-2); now < 10003; now++ {
		got := impl.TimeIn(x, now)
		sameCode(t, fmt.Sprintf("at %d", now), got.Code, whenRange(now < 0 || now > 9999))
		if got.Code == impl.OK && len(got.Session.Held) != int(when(now <= 400, 1)) {
			t.Errorf("at %d: %+v", now, got)
		}
		sameBool(t, fmt.Sprintf("holds at %d", now), impl.HoldsNow(x, 3, now), now <= 400)
	}
}

// life is a session, and beside it what it has to be: told by what was done
// with it, in maps of its own.
type life struct {
	x        impl.Session
	now      int64
	said     []hearing
	asked    map[string]bool
	answered map[string]bool
	held     map[int64]int64
	seed     uint32
}

func newLife(exporter []byte, seed int) *life {
	return &life{x: impl.NewSession(exporter, 1).Session, asked: map[string]bool{}, answered: map[string]bool{}, held: map[int64]int64{}, seed: uint32(seed)}
}

// next is less than n, and told by the seed alone.
func (l *life) next(n int) int {
	l.seed = l.seed*1664525 + 1013904223
	return int(l.seed>>16) % n
}

func (l *life) agrees(t *testing.T, name string) {
	t.Helper()
	sameCode(t, name+": fault", impl.SessionFault(l.x), impl.OK)
	if len(l.x.Used) != len(l.answered) || len(l.x.Asked)+len(l.x.Used) != len(l.asked) || len(l.x.Held) != len(l.held) {
		t.Errorf("%s: %+v", name, l.x)
	}
	for _, context := range l.x.Used {
		sameBool(t, name+": used", l.answered[string(context)], true)
	}
	for _, context := range l.x.Asked {
		sameBool(t, name+": asked", l.asked[string(context)] && !l.answered[string(context)], true)
	}
	for _, h := range l.x.Held {
		until, ok := l.held[h.Cert]
		sameBool(t, name+": held", ok && until == h.Until, true)
	}
	for _, c := range certsOfEdges() {
		until, there := l.held[c.Id]
		sameBool(t, name+": HoldsNow", impl.HoldsNow(l.x, c.Id, l.now), there && until >= l.now)
	}
}

func (l *life) ask(t *testing.T, name string) {
	t.Helper()
	context := []byte{byte(l.next(30))}
	got := impl.AskContext(l.x, context)
	code := firstCode(when(l.asked[string(context)], impl.ErrTaken), whenLimit(len(l.x.Asked) == 6))
	sameCode(t, name+": AskContext", got.Code, code)
	if code == impl.OK {
		l.x, l.asked[string(context)] = got.Session, true
	}
}

// say has something made that may be heard later, and more than once.
func (l *life) say(t *testing.T) {
	t.Helper()
	context := []byte{byte(l.next(30))}
	if len(l.x.Asked) > 0 && l.next(2) == 0 {
		context = l.x.Asked[l.next(len(l.x.Asked))]
	}
	l.said = append(l.said, telling(t, l.x, context, certsOfEdges()[l.next(8)], int64(l.next(40))))
}

func (l *life) hear(t *testing.T, name string) {
	t.Helper()
	if len(l.said) == 0 {
		return
	}
	h := l.said[l.next(len(l.said))]
	h.x, h.now = l.x, l.now
	a := readAuthByHand(h.data).Auth
	_, again := l.held[a.Cert.Id]
	key := string(a.Context)
	got := h.ask()
	code := firstCode(when(a.Cert.Until < l.now, impl.ErrOld), whenState(!l.asked[key] || l.answered[key]), whenLimit(len(l.held) == 6 && !again))
	sameCode(t, name+": HearAuth", got.Code, code)
	sameInt(t, name+": Cert", impl.IntResult{Code: got.Code, Value: got.Cert}, code, when(code == impl.OK, a.Cert.Id))
	if code == impl.OK {
		l.x, l.answered[key], l.held[a.Cert.Id] = got.Session, true, a.Cert.Until
	}
}

func (l *life) revoke(t *testing.T, name string) {
	t.Helper()
	c := certsOfEdges()[l.next(8)]
	_, there := l.held[c.Id]
	got := impl.RevokeIn(l.x, c.Id)
	sameCode(t, name+": RevokeIn", got.Code, when(!there, impl.ErrNone))
	if there {
		l.x = got.Session
		delete(l.held, c.Id)
	}
}

func (l *life) tick() {
	l.now += int64(l.next(3))
	l.x = impl.TimeIn(l.x, l.now).Session
	for cert, until := range l.held {
		if until < l.now {
			delete(l.held, cert)
		}
	}
}

func TestP15SessionsThatLive(t *testing.T) {
	pair := impl.PairOf(clientPlain(), serverPlain())
	answered := 0
	for run := range 12 {
		l := newLife(pair.Client.Secrets.Exporter, run)
		for step := range 250 {
			name := fmt.Sprintf("run %d, step %d", run, step)
			switch l.next(10) {
			case 0, 1, 2:
				l.ask(t, name)
			case 3, 4:
				l.say(t)
			case 5, 6, 7:
				l.hear(t, name)
			case 8:
				l.revoke(t, name)
			case 9:
				l.tick()
			}
			l.agrees(t, name)
		}
		answered += len(l.answered)
	}
	if answered < 60 {
		t.Errorf("only %d are answered", answered)
	}
}

func TestP15FortyContextsAndNoMore(t *testing.T) {
	x := impl.NewSession(someBytes(32), 2).Session
	c := impl.Cert{Id: 5, Owner: 5, Until: 5}
	for i := range 40 {
		asked := impl.AskContext(x, contextOf(i))
		sameCode(t, fmt.Sprintf("context %d", i), asked.Code, impl.OK)
		got := telling(t, asked.Session, contextOf(i), c, int64(i)).ask()
		sameSession(t, fmt.Sprintf("context %d is answered", i), got, impl.SessionResult{Cert: 5, Session: impl.Session{Exporter: someBytes(32), Role: 2, Used: contextsFrom(0, i+1), Held: []impl.Held{{Cert: 5, Until: 5}}}})
		x = got.Session
	}
	noSession(t, "one more", impl.AskContext(x, contextOf(40)), impl.ErrLimit)
	noSession(t, "one of them", impl.AskContext(x, contextOf(7)), impl.ErrTaken)
	// One that is asked for among so many has no room either.
	x.Asked = [][]byte{contextOf(40)}
	sameCode(t, "forty used and one asked", impl.SessionFault(x), impl.OK)
	noSession(t, "its answer", telling(t, x, contextOf(40), c, 0).ask(), impl.ErrLimit)
}

func roomyHeld(list []impl.Held) []impl.Held {
	return append(slices.Clone(list), impl.Held{Cert: 77}, impl.Held{Cert: 78})[:len(list)]
}

func roomySession(x impl.Session) impl.Session {
	return impl.Session{Exporter: roomyFor(x.Exporter), Role: x.Role, Asked: roomyBlocks(x.Asked), Used: roomyBlocks(x.Used), Held: roomyHeld(x.Held)}
}

func staysSession(x impl.Session, was impl.Session) bool {
	behind := []impl.Held{{Cert: 77}, {Cert: 78}}
	return alikeSessions(x, was) && stays(x.Exporter, was.Exporter) && staysBlocks(x.Asked, was.Asked) && staysBlocks(x.Used, was.Used) &&
		slices.Equal(x.Held[:len(was.Held)+2], slices.Concat(was.Held, behind))
}

// hearingsOf are of all that is asked for, and of what is not.
func hearingsOf(t *testing.T, x impl.Session) []hearing {
	t.Helper()
	c := impl.Cert{Id: 18, Owner: 3, Until: 170}
	if sessionFaultByHand(x) != impl.OK {
		return []hearing{telling(t, sessionOf(1, 0, 0), []byte{1}, c, 0)}
	}
	list := []hearing{telling(t, x, []byte{77}, c, 2)}
	for at, context := range x.Asked {
		list = append(list, telling(t, x, context, c, int64(at)), telling(t, x, context, impl.Cert{Id: int64(3 + at), Owner: 1, Until: 9}, 0))
	}
	return list
}

func allSessions() []impl.Session {
	list := goodSessions()
	for _, w := range wrongSessions() {
		list = append(list, w.x)
	}
	return append(list, impl.Session{})
}

func TestP1SessionArgumentsStay(t *testing.T) {
	for i, was := range allSessions() {
		x := roomySession(was)
		context, token := roomyFor(contextOf(9)), roomyFor(someBytes(32))
		impl.SessionFault(x)
		impl.NewSession(x.Exporter, x.Role)
		impl.AskContext(x, context)
		for _, cert := range []int64{0, 1, 2, 18, 50, 99} {
			impl.RevokeIn(x, cert)
			impl.HoldsNow(x, cert, 50)
		}
		for _, now := range timesOfSessions() {
			impl.TimeIn(x, now)
		}
		impl.CheckToken(x, token)
		if !staysSession(x, was) || !stays(context, contextOf(9)) || !stays(token, someBytes(32)) {
			t.Errorf("an argument is changed: session %d", i)
		}
		for _, h := range hearingsOf(t, was) {
			certs, signs, data := roomyCerts(h.certs), roomySigns(h.signs), roomyFor(h.data)
			impl.HearAuth(x, certs, signs, h.now, data)
			if !staysSession(x, was) || !staysCerts(certs, h.certs) || !staysSigns(signs, h.signs) || !stays(data, h.data) {
				t.Errorf("an argument of HearAuth is changed: session %d", i)
			}
		}
	}
}

func bytesOfSession(x impl.Session) [][]byte {
	return slices.Concat([][]byte{x.Exporter}, x.Asked, x.Used)
}

// sharesNoLists spoils each list of lists, to the end of its room, and sees
// that all others stay; then it is mended.
func sharesNoLists(t *testing.T, name string, all [][][]byte) {
	t.Helper()
	for i := range all {
		room := all[i][:cap(all[i])]
		was := slices.Clone(room)
		for k := range room {
			room[k] = nil
		}
		for j := range all {
			if i != j && slices.ContainsFunc(all[j], func(b []byte) bool { return b == nil }) {
				t.Errorf("%s: lists %d and %d share memory", name, i, j)
			}
		}
		copy(room, was)
	}
}

func sharesNoHeld(t *testing.T, name string, all [][]impl.Held) {
	t.Helper()
	for i := range all {
		room := all[i][:cap(all[i])]
		was := slices.Clone(room)
		for k := range room {
			room[k] = impl.Held{Cert: -7}
		}
		for j := range all {
			if i != j && holdsCert(all[j], -7) {
				t.Errorf("%s: what is held, %d and %d, shares memory", name, i, j)
			}
		}
		copy(room, was)
	}
}

func spoilSession(x impl.Session) {
	for _, list := range bytesOfSession(x) {
		spoil(list)
	}
	for _, list := range [][][]byte{x.Asked, x.Used} {
		room := list[:cap(list)]
		for i := range room {
			room[i] = []byte("spoilt")
		}
	}
	room := x.Held[:cap(x.Held)]
	for i := range room {
		room[i] = impl.Held{Cert: -1, Until: -1}
	}
}

// sessionAsks are all that answer a session, of one that may have none of the
// contexts and certificates that are named.
func sessionAsks(h hearing) map[string]func(h hearing) impl.SessionResult {
	asks := map[string]func(h hearing) impl.SessionResult{
		"NewSession":         func(h hearing) impl.SessionResult { return impl.NewSession(h.x.Exporter, h.x.Role) },
		"AskContext":         func(h hearing) impl.SessionResult { return impl.AskContext(h.x, h.data[1:3]) },
		"HearAuth":           hearing.ask,
		"TimeIn":             func(h hearing) impl.SessionResult { return impl.TimeIn(h.x, 100) },
		"TimeIn, all stays":  func(h hearing) impl.SessionResult { return impl.TimeIn(h.x, 0) },
		"TimeIn, all is out": func(h hearing) impl.SessionResult { return impl.TimeIn(h.x, 9999) },
	}
	for _, held := range h.x.Held {
		asks[fmt.Sprintf("RevokeIn %d", held.Cert)] = func(h hearing) impl.SessionResult { return impl.RevokeIn(h.x, held.Cert) }
	}
	return asks
}

func TestP1SessionsAreNewMemory(t *testing.T) {
	for i, x := range goodSessions() {
		for j, from := range hearingsOf(t, x) {
			for name, ask := range sessionAsks(from) {
				name = fmt.Sprintf("%s of session %d, hearing %d", name, i, j)
				h := from.clone()
				first, second := ask(h), ask(h)
				want := cloneSessionResult(first)
				sharesNone(t, name, slices.Concat(bytesOfSession(first.Session), bytesOfSession(second.Session), bytesOfSession(h.x), bytesOfSigns(h.signs), [][]byte{h.data}))
				sharesNoLists(t, name, [][][]byte{first.Session.Asked, first.Session.Used, second.Session.Asked, second.Session.Used, h.x.Asked, h.x.Used})
				sharesNoHeld(t, name, [][]impl.Held{first.Session.Held, second.Session.Held, h.x.Held})
				sameSession(t, name+" mended", first, want)
				spoilSession(first.Session)
				sameSession(t, name+" told ahead", second, want)
				sameSession(t, name+" told behind", ask(h), want)
				spoilSession(h.x)
				spoilSigns(h.signs)
				spoil(h.data)
				clear(h.certs)
				sameSession(t, name+" of what is changed behind it", second, want)
				sameSession(t, name+" asked once more", ask(from.clone()), want)
			}
		}
	}
}

func TestP1SessionsGoOnApart(t *testing.T) {
	// What is put behind one answer is not put behind another one.
	for _, x := range []impl.Session{sessionOf(0, 0, 0), sessionOf(1, 1, 1), sessionOf(3, 3, 3), sessionOf(3, 30, 4)} {
		x = impl.AskContext(x, []byte{1}).Session
		was := cloneSession(x)
		a, b := impl.AskContext(x, []byte{2}), impl.AskContext(x, []byte{3})
		sameSession(t, "the one", a, askByHand(was, []byte{2}))
		sameSession(t, "the other", b, askByHand(was, []byte{3}))
		h := telling(t, x, []byte{1}, impl.Cert{Id: 1, Owner: 1, Until: 1}, 0)
		other := telling(t, x, []byte{1}, impl.Cert{Id: 98, Owner: 1, Until: 1}, 0)
		c, d := h.ask(), other.ask()
		want := hearing{was, h.certs, h.signs, h.now, h.data}.byHand(t)
		sameSession(t, "what the one hears", c, want)
		sameSession(t, "what the other hears", d, hearing{was, other.certs, other.signs, other.now, other.data}.byHand(t))
		impl.AskContext(c.Session, []byte{4})
		impl.RevokeIn(c.Session, 1)
		impl.TimeIn(c.Session, 9999)
		sameSession(t, "what the one heard", c, want)
		if !alikeSessions(x, was) {
			t.Errorf("a session is changed: %+v, it was %+v", x, was)
		}
	}
}

func TestP1SessionsOfOneMemory(t *testing.T) {
	// Asked and Used are pieces of one list, and all bytes lie in one memory.
	whole := someBytes(120)
	var list [][]byte
	for i := range 12 {
		list = append(list, whole[3*i:3*i+8])
	}
	x := impl.Session{Exporter: whole[:32], Role: 1, Asked: list[:4], Used: list[4:9], Held: heldOf(6)[:3]}
	was, bytesWere := cloneSession(x), bytes.Clone(whole)
	context := whole[20:25]
	want := askByHand(was, bytes.Clone(context))
	got := impl.AskContext(x, context)
	sameSession(t, "AskContext", got, want)
	sharesNone(t, "AskContext", append(bytesOfSession(got.Session), whole))
	sharesNoLists(t, "AskContext", [][][]byte{got.Session.Asked, got.Session.Used, list})
	h := telling(t, cloneSession(x), bytes.Clone(x.Asked[2]), impl.Cert{Id: 7, Owner: 1, Until: 9}, 3)
	heard := hearing{x, h.certs, h.signs, h.now, h.data}.ask()
	sameSession(t, "HearAuth", heard, h.byHand(t))
	sharesNone(t, "HearAuth", append(bytesOfSession(heard.Session), whole))
	sharesNoLists(t, "HearAuth", [][][]byte{heard.Session.Asked, heard.Session.Used, list})
	sameSession(t, "RevokeIn", impl.RevokeIn(x, 18), revokeByHand(was, 18))
	sameSession(t, "TimeIn", impl.TimeIn(x, 100), timeByHand(was, 100))
	if !alikeSessions(x, was) || !bytes.Equal(whole, bytesWere) || len(list) != 12 {
		t.Error("that memory is changed")
	}
	// One list for both has each context twice.
	x.Used = x.Asked
	sameCode(t, "Asked and Used are one list", impl.SessionFault(x), impl.ErrTaken)
	// A context of the session's own memory is the session's own.
	noSession(t, "one that is asked", impl.AskContext(was, was.Asked[0]), impl.ErrTaken)
}

func TestP1SessionsHangOnArgumentsAlone(t *testing.T) {
	x := sessionOf(3, 5, 6)
	good := telling(t, x, x.Asked[1], impl.Cert{Id: 34, Owner: 2, Until: 333}, 1)
	token := bindByHand(t, x.Exporter)
	want := good.byHand(t)
	ask := func() {
		t.Helper()
		sameCode(t, "SessionFault", impl.SessionFault(x), impl.OK)
		sameSession(t, "NewSession", impl.NewSession(x.Exporter, 2), newByHand(x.Exporter, 2))
		sameSession(t, "AskContext", impl.AskContext(x, []byte{1}), askByHand(x, []byte{1}))
		sameSession(t, "HearAuth", good.ask(), want)
		sameSession(t, "RevokeIn", impl.RevokeIn(x, 18), revokeByHand(x, 18))
		sameSession(t, "TimeIn", impl.TimeIn(x, 151), timeByHand(x, 151))
		sameBool(t, "HoldsNow", impl.HoldsNow(x, 18, 150), true)
		sameCode(t, "CheckToken", impl.CheckToken(x, token), impl.OK)
	}
	for range 20 {
		// What stands in a map is told in one order each time.
		ask()
	}
	// What is asked, heard or refused in between leaves nothing behind.
	for _, other := range allSessions() {
		impl.AskContext(other, []byte{1})
		impl.RevokeIn(other, 18)
		impl.TimeIn(other, 9999)
		impl.CheckToken(other, token)
		for _, h := range hearingsOf(t, other)[:1] {
			h.x = other
			h.ask()
		}
		ask()
	}
}

func TestP1SessionsAtOnce(t *testing.T) {
	// What is asked at the same time, of the same session, is answered as if it were asked alone.
	x := sessionOf(4, 5, 6)
	type told struct {
		h     hearing
		got   impl.SessionResult
		asked impl.SessionResult
		over  impl.SessionResult
		gone  impl.SessionResult
	}
	all := slices.Repeat(hearingsOf(t, x), 8)
	out := make(chan told, len(all))
	for _, h := range all {
		go func() {
			out <- told{h, h.ask(), impl.AskContext(x, []byte{1}), impl.TimeIn(x, 151), impl.RevokeIn(x, 34)}
		}()
	}
	for range all {
		y := <-out
		sameSession(t, "heard at once", y.got, y.h.byHand(t))
		sameSession(t, "asked at once", y.asked, askByHand(x, []byte{1}))
		sameSession(t, "over at once", y.over, timeByHand(x, 151))
		sameSession(t, "revoked at once", y.gone, revokeByHand(x, 34))
	}
}

func TestP1SessionsOfNothing(t *testing.T) {
	// Nothing, be it nil or empty, is one value.
	key := rising(32)
	empty := impl.Session{Exporter: key, Role: 1, Asked: [][]byte{}, Used: [][]byte{}, Held: []impl.Held{}}
	plain := impl.Session{Exporter: key, Role: 1}
	for _, x := range []impl.Session{empty, plain} {
		sameCode(t, "SessionFault", impl.SessionFault(x), impl.OK)
		sameSession(t, "AskContext", impl.AskContext(x, []byte{1}), impl.SessionResult{Session: impl.Session{Exporter: key, Role: 1, Asked: [][]byte{{1}}}})
		sameSession(t, "TimeIn", impl.TimeIn(x, 0), impl.SessionResult{Session: plain})
		noSession(t, "RevokeIn", impl.RevokeIn(x, 1), impl.ErrNone)
		sameBool(t, "HoldsNow", impl.HoldsNow(x, 1, 0), false)
		sameBool(t, "HoldsNow of 0", impl.HoldsNow(x, 0, 0), false)
		noSession(t, "HearAuth", telling(t, x, []byte{1}, impl.Cert{Id: 1, Owner: 1}, 0).ask(), impl.ErrState)
		for _, none := range [][]byte{nil, {}} {
			noSession(t, "AskContext of nothing", impl.AskContext(x, none), impl.ErrMany)
			noSession(t, "HearAuth of nothing", impl.HearAuth(x, nil, nil, 0, none), impl.ErrText)
			sameCode(t, "CheckToken of nothing", impl.CheckToken(x, none), impl.ErrSign)
			noSession(t, "NewSession of nothing", impl.NewSession(none, 1), impl.ErrForm)
		}
	}
	sameCode(t, "SessionFault of nothing at all", impl.SessionFault(impl.Session{}), impl.ErrForm)
	noSession(t, "NewSession of nothing at all", impl.NewSession(nil, 0), impl.ErrForm)
	noSession(t, "AskContext of nothing at all", impl.AskContext(impl.Session{}, nil), impl.ErrForm)
	noSession(t, "HearAuth of nothing at all", hearing{}.ask(), impl.ErrForm)
	noSession(t, "RevokeIn of nothing at all", impl.RevokeIn(impl.Session{}, 0), impl.ErrForm)
	noSession(t, "TimeIn of nothing at all", impl.TimeIn(impl.Session{}, 0), impl.ErrForm)
	sameBool(t, "HoldsNow of nothing at all", impl.HoldsNow(impl.Session{}, 0, 0), false)
	sameCode(t, "CheckToken of nothing at all", impl.CheckToken(impl.Session{}, nil), impl.ErrForm)
}
