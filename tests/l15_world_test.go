package tests

import (
	"bytes"
	"cmp"
	"fmt"
	"maps"
	"math"
	"slices"
	"testing"
	"unsafe"

	"loop.example/g00375/impl"
)

func hasNoPrincipal(v int64) bool {
	return v < 1 || v > 9
}

// linkFaultByHand and the like are what the program's answers are held against.
func linkFaultByHand(l impl.Link) int64 {
	return firstCode(
		whenRange(hasNoPrincipal(l.A) || hasNoPrincipal(l.B)),
		sessionFaultByHand(l.Client),
		sessionFaultByHand(l.Server),
		whenForm(l.Client.Role != 1 || l.Server.Role != 2 || !bytes.Equal(l.Client.Exporter, l.Server.Exporter)),
	)
}

func hasNoEvent(e impl.Event, links int) bool {
	least, most := 1, 20
	if e.Kind == 3 {
		least, most = 0, 0
	}
	return e.Kind < 1 || e.Kind > 3 || e.Link < 0 || e.Link >= int64(links) || e.Role < 1 || e.Role > 2 ||
		e.Cert < 1 || e.Cert > 99 || e.By < 0 || e.By > 9 || len(e.Context) < least || len(e.Context) > most
}

func worldFaultByHand(w impl.World) int64 {
	code := firstCode(
		whenRange(w.Now < 0 || w.Now > 9000),
		certsFaultByHand(w.Certs),
		signsFaultByHand(w.Signs),
		when(len(w.Leaked) > 8 || len(w.Links) > 4 || len(w.Pool) > 30 || len(w.Events) > 60, impl.ErrMany),
		whenRange(slices.ContainsFunc(w.Leaked, func(id int64) bool { return id < 1 || id > 99 })),
	)
	for _, l := range w.Links {
		code = firstCode(code, linkFaultByHand(l))
	}
	return firstCode(
		code,
		when(slices.ContainsFunc(w.Pool, func(data []byte) bool { return len(data) > 160 }), impl.ErrMany),
		whenRange(slices.ContainsFunc(w.Events, func(e impl.Event) bool { return hasNoEvent(e, len(w.Links)) })),
	)
}

func placeByHand(w impl.World, link int64, role int64) int64 {
	return firstCode(worldFaultByHand(w), when(link < 0 || link >= int64(len(w.Links)), impl.ErrNone), whenRange(role != 1 && role != 2))
}

// endOfWorld is the session of role, and whose it is.
func endOfWorld(w *impl.World, link int64, role int64) (*impl.Session, int64) {
	l := &w.Links[link]
	if role == 1 {
		return &l.Client, l.A
	}
	return &l.Server, l.B
}

func noWorldBy(code int64) impl.WorldResult {
	return impl.WorldResult{Code: code}
}

func issueByHand(w impl.World, owner int64, until int64) impl.WorldResult {
	c := impl.Cert{Id: int64(len(w.Certs) + 1), Owner: owner, Until: until}
	code := firstCode(
		worldFaultByHand(w),
		whenRange(hasNoPrincipal(owner) || until < 0 || until > 9999),
		when(len(w.Certs) == 8, impl.ErrMany),
		when(slices.ContainsFunc(w.Certs, func(other impl.Cert) bool { return other.Id == c.Id }), impl.ErrTaken),
	)
	if code != impl.OK {
		return noWorldBy(code)
	}
	w.Certs = slices.Concat(w.Certs, []impl.Cert{c})
	return impl.WorldResult{World: w}
}

func linkByHand(t *testing.T, w impl.World, client impl.Side, server impl.Side, a int64, b int64) impl.WorldResult {
	t.Helper()
	code := firstCode(worldFaultByHand(w), whenRange(hasNoPrincipal(a) || hasNoPrincipal(b)), whenLimit(len(w.Links) == 4))
	if code != impl.OK {
		return noWorldBy(code)
	}
	pair := pairByHand(t, client, server)
	if pair.Code != impl.OK {
		return noWorldBy(pair.Code)
	}
	w.Links = slices.Concat(w.Links, []impl.Link{{
		A: a, B: b,
		Client: impl.Session{Exporter: pair.Client.Secrets.Exporter, Role: 1},
		Server: impl.Session{Exporter: pair.Server.Secrets.Exporter, Role: 2},
	}})
	return impl.WorldResult{World: w}
}

func askWorldByHand(w impl.World, link int64, role int64, context []byte) impl.WorldResult {
	code := placeByHand(w, link, role)
	if code != impl.OK {
		return noWorldBy(code)
	}
	w = cloneWorld(w)
	x, _ := endOfWorld(&w, link, role)
	asked := askByHand(*x, context)
	if asked.Code != impl.OK {
		return noWorldBy(asked.Code)
	}
	*x = asked.Session
	return impl.WorldResult{World: w}
}

func answerWorldByHand(t *testing.T, w impl.World, link int64, role int64, context []byte, cert int64) impl.WorldResult {
	t.Helper()
	found := lookByHand(w.Certs, cert)
	code := firstCode(placeByHand(w, link, role), whenLimit(len(w.Pool) == 30 || len(w.Events) == 60), when(hasNoContext(context), impl.ErrMany), found.Code)
	if code != impl.OK {
		return noWorldBy(code)
	}
	w = cloneWorld(w)
	x, by := endOfWorld(&w, link, role)
	m := making{x.Exporter, role, context, found.Cert, int64(len(w.Signs))}
	signed := signing{w.Certs, w.Leaked, w.Signs, cert, by, m.digestByHand(t).Bytes}.byHand()
	if signed.Code != impl.OK {
		return noWorldBy(signed.Code)
	}
	w.Signs = signed.Signs
	w.Pool = append(w.Pool, m.byHand(t).Bytes)
	w.Events = append(w.Events, impl.Event{Kind: 1, Link: link, Role: role, Context: context, Cert: cert, By: by})
	return impl.WorldResult{World: w}
}

func hearWorldByHand(t *testing.T, w impl.World, link int64, role int64, at int64) impl.WorldResult {
	t.Helper()
	code := firstCode(placeByHand(w, link, role), whenLimit(len(w.Events) == 60), whenRange(at < 0 || at >= int64(len(w.Pool))))
	if code != impl.OK {
		return noWorldBy(code)
	}
	w = cloneWorld(w)
	x, _ := endOfWorld(&w, link, role)
	_, other := endOfWorld(&w, link, 3-role)
	heard := hearing{*x, w.Certs, w.Signs, w.Now, w.Pool[at]}.byHand(t)
	if heard.Code != impl.OK {
		return noWorldBy(heard.Code)
	}
	*x = heard.Session
	context := readAuthByHand(w.Pool[at]).Auth.Context
	w.Events = append(w.Events, impl.Event{Kind: 2, Link: link, Role: 3 - role, Context: context, Cert: heard.Cert, By: other})
	return impl.WorldResult{World: w}
}

func revokeWorldByHand(w impl.World, link int64, role int64, cert int64) impl.WorldResult {
	code := firstCode(placeByHand(w, link, role), whenLimit(len(w.Events) == 60))
	if code != impl.OK {
		return noWorldBy(code)
	}
	w = cloneWorld(w)
	x, by := endOfWorld(&w, link, role)
	revoked := revokeByHand(*x, cert)
	if revoked.Code != impl.OK {
		return noWorldBy(revoked.Code)
	}
	*x = revoked.Session
	w.Events = append(w.Events, impl.Event{Kind: 3, Link: link, Role: 3 - role, Cert: cert, By: by})
	return impl.WorldResult{World: w}
}

func leakByHand(w impl.World, cert int64) impl.WorldResult {
	there := slices.Contains(w.Leaked, cert)
	code := firstCode(worldFaultByHand(w), lookByHand(w.Certs, cert).Code, when(!there && len(w.Leaked) == 8, impl.ErrMany))
	if code != impl.OK {
		return noWorldBy(code)
	}
	if !there {
		w.Leaked = slices.Concat(w.Leaked, []int64{cert})
	}
	return impl.WorldResult{World: w}
}

func tickByHand(w impl.World, n int64) impl.WorldResult {
	code := firstCode(worldFaultByHand(w), whenRange(n < 0 || n > 100 || w.Now > 9000-n))
	if code != impl.OK {
		return noWorldBy(code)
	}
	w = cloneWorld(w)
	w.Now += n
	for i := range w.Links {
		for _, x := range []*impl.Session{&w.Links[i].Client, &w.Links[i].Server} {
			*x = timeByHand(*x, w.Now).Session
		}
	}
	return impl.WorldResult{World: w}
}

func signedByOwnerByHand(t *testing.T, w impl.World, e impl.Event) bool {
	t.Helper()
	found := lookByHand(w.Certs, e.Cert)
	if found.Code != impl.OK {
		return false
	}
	digest := making{w.Links[e.Link].Server.Exporter, e.Role, e.Context, found.Cert, 0}.digestByHand(t).Bytes
	return slices.ContainsFunc(w.Signs, func(s impl.Sign) bool {
		return s.Cert == e.Cert && s.By == found.Cert.Owner && bytes.Equal(s.Digest, digest)
	})
}

func acceptRightByHand(t *testing.T, w impl.World) bool {
	t.Helper()
	right, seen := worldFaultByHand(w) == impl.OK, map[string]int{}
	for _, e := range w.Events {
		if e.Kind != 2 || !right {
			continue
		}
		key := fmt.Sprint(e.Link, e.Role, e.Context)
		seen[key]++
		right = seen[key] == 1 && (slices.Contains(w.Leaked, e.Cert) || signedByOwnerByHand(t, w, e))
	}
	return right
}

// heldByHand is what the session of role has to hold, told from the last event
// on: the last one that speaks of a certificate is what counts.
func heldByHand(w impl.World, link int64, role int64) []impl.Held {
	var held []impl.Held
	told := map[int64]int{}
	for _, e := range slices.Backward(w.Events) {
		if e.Kind == 1 || e.Link != link || e.Role == role {
			continue
		}
		told[e.Cert]++
		found := lookByHand(w.Certs, e.Cert)
		if told[e.Cert] == 1 && e.Kind == 2 && found.Code == impl.OK && found.Cert.Until >= w.Now {
			held = append(held, impl.Held{Cert: e.Cert, Until: found.Cert.Until})
		}
	}
	slices.SortFunc(held, func(a impl.Held, b impl.Held) int { return cmp.Compare(a.Cert, b.Cert) })
	return held
}

func heldRightByHand(w impl.World) bool {
	if worldFaultByHand(w) != impl.OK {
		return false
	}
	for i, l := range w.Links {
		if !slices.Equal(l.Client.Held, heldByHand(w, int64(i), 1)) || !slices.Equal(l.Server.Held, heldByHand(w, int64(i), 2)) {
			return false
		}
	}
	return true
}

func cloneEvents(list []impl.Event) []impl.Event {
	var out []impl.Event
	for _, e := range list {
		e.Context = bytes.Clone(e.Context)
		out = append(out, e)
	}
	return out
}

func cloneLinks(list []impl.Link) []impl.Link {
	var out []impl.Link
	for _, l := range list {
		out = append(out, impl.Link{A: l.A, B: l.B, Client: cloneSession(l.Client), Server: cloneSession(l.Server)})
	}
	return out
}

func cloneWorld(w impl.World) impl.World {
	return impl.World{Now: w.Now, Certs: slices.Clone(w.Certs), Leaked: slices.Clone(w.Leaked), Signs: cloneSigns(w.Signs),
		Links: cloneLinks(w.Links), Pool: cloneBlocks(w.Pool), Events: cloneEvents(w.Events)}
}

func alikeEvents(a impl.Event, b impl.Event) bool {
	return a.Kind == b.Kind && a.Link == b.Link && a.Role == b.Role && bytes.Equal(a.Context, b.Context) && a.Cert == b.Cert && a.By == b.By
}

func alikeLinks(a impl.Link, b impl.Link) bool {
	return a.A == b.A && a.B == b.B && alikeSessions(a.Client, b.Client) && alikeSessions(a.Server, b.Server)
}

func alikeWorlds(a impl.World, b impl.World) bool {
	return a.Now == b.Now && slices.Equal(a.Certs, b.Certs) && slices.Equal(a.Leaked, b.Leaked) && alikeSigns(a.Signs, b.Signs) &&
		slices.EqualFunc(a.Links, b.Links, alikeLinks) && slices.EqualFunc(a.Pool, b.Pool, bytes.Equal) && slices.EqualFunc(a.Events, b.Events, alikeEvents)
}

func sameWorld(t *testing.T, name string, got impl.WorldResult, want impl.WorldResult) {
	t.Helper()
	if got.Code != want.Code || !alikeWorlds(got.World, want.World) {
		t.Errorf("%s: %+v, want %+v", name, got, want)
	}
}

func noWorld(t *testing.T, name string, got impl.WorldResult, code int64) {
	t.Helper()
	sameWorld(t, name, got, noWorldBy(code))
}

// worldStep is one step of a world, and what it has to answer.
type worldStep struct {
	name   string
	ask    func(w impl.World) impl.WorldResult
	byHand func(t *testing.T, w impl.World) impl.WorldResult
}

func issuing(owner int64, until int64) worldStep {
	return worldStep{fmt.Sprintf("issue %d %d", owner, until),
		func(w impl.World) impl.WorldResult { return impl.IssueWorld(w, owner, until) },
		func(t *testing.T, w impl.World) impl.WorldResult { return issueByHand(w, owner, until) }}
}

func linkingOf(client impl.Side, server impl.Side, a int64, b int64) worldStep {
	return worldStep{fmt.Sprintf("link %+v %+v %d %d", client, server, a, b),
		func(w impl.World) impl.WorldResult { return impl.LinkWorld(w, client, server, a, b) },
		func(t *testing.T, w impl.World) impl.WorldResult { return linkByHand(t, w, client, server, a, b) }}
}

func askingAt(link int64, role int64, context []byte) worldStep {
	return worldStep{fmt.Sprintf("ask %d %d %x", link, role, context),
		func(w impl.World) impl.WorldResult { return impl.AskWorld(w, link, role, context) },
		func(t *testing.T, w impl.World) impl.WorldResult { return askWorldByHand(w, link, role, context) }}
}

func answeringAt(link int64, role int64, context []byte, cert int64) worldStep {
	return worldStep{fmt.Sprintf("answer %d %d %x %d", link, role, context, cert),
		func(w impl.World) impl.WorldResult { return impl.AnswerWorld(w, link, role, context, cert) },
		func(t *testing.T, w impl.World) impl.WorldResult {
			return answerWorldByHand(t, w, link, role, context, cert)
		}}
}

func hearingAt(link int64, role int64, at int64) worldStep {
	return worldStep{fmt.Sprintf("hear %d %d %d", link, role, at),
		func(w impl.World) impl.WorldResult { return impl.HearWorld(w, link, role, at) },
		func(t *testing.T, w impl.World) impl.WorldResult { return hearWorldByHand(t, w, link, role, at) }}
}

func revokingAt(link int64, role int64, cert int64) worldStep {
	return worldStep{fmt.Sprintf("revoke %d %d %d", link, role, cert),
		func(w impl.World) impl.WorldResult { return impl.RevokeWorld(w, link, role, cert) },
		func(t *testing.T, w impl.World) impl.WorldResult { return revokeWorldByHand(w, link, role, cert) }}
}

func leakingOf(cert int64) worldStep {
	return worldStep{fmt.Sprintf("leak %d", cert),
		func(w impl.World) impl.WorldResult { return impl.LeakWorld(w, cert) },
		func(t *testing.T, w impl.World) impl.WorldResult { return leakByHand(w, cert) }}
}

func tickingBy(n int64) worldStep {
	return worldStep{fmt.Sprintf("tick %d", n),
		func(w impl.World) impl.WorldResult { return impl.TickWorld(w, n) },
		func(t *testing.T, w impl.World) impl.WorldResult { return tickByHand(w, n) }}
}

// sees holds the answer of a step against what it has to be.
func (s worldStep) sees(t *testing.T, name string, w impl.World) impl.WorldResult {
	t.Helper()
	got := s.ask(w)
	sameWorld(t, name+": "+s.name, got, s.byHand(t, w))
	return got
}

// goes is the world behind all these steps, none of which may tell a code.
func goes(t *testing.T, w impl.World, steps ...worldStep) impl.World {
	t.Helper()
	for i, s := range steps {
		got := s.sees(t, fmt.Sprintf("step %d", i), w)
		if got.Code != impl.OK {
			t.Fatalf("step %d, %s: %d", i, s.name, got.Code)
		}
		w = got.World
	}
	return w
}

// refusesStep asks for a code, and for nothing beside it.
func refusesStep(t *testing.T, name string, w impl.World, s worldStep, code int64) {
	t.Helper()
	noWorld(t, name+": "+s.name, s.sees(t, name, w), code)
}

func isRightByHand(t *testing.T, name string, w impl.World) {
	t.Helper()
	sameBool(t, name+": AcceptRight", impl.AcceptRight(w), acceptRightByHand(t, w))
	sameBool(t, name+": HeldRight", impl.HeldRight(w), heldRightByHand(w))
}

func isRight(t *testing.T, name string, w impl.World, accepts bool, holds bool) {
	t.Helper()
	isRightByHand(t, name, w)
	sameBool(t, name+": AcceptRight", impl.AcceptRight(w), accepts)
	sameBool(t, name+": HeldRight", impl.HeldRight(w), holds)
}

// changingWorld makes another world of w, and w stays as it was.
func changingWorld(w impl.World, change func(w *impl.World)) impl.World {
	other := cloneWorld(w)
	change(&other)
	return other
}

// linkOf has sessions with so many that are Asked, Used and Held, and an
// exporter of its own.
func linkOf(n int, asked int, used int, held int) impl.Link {
	l := impl.Link{A: int64(1 + n%9), B: int64(9 - n%9), Client: sessionOf(asked, used, held), Server: sessionOf(asked, used, held)}
	l.Client.Exporter, l.Server.Exporter = digestOf(n), digestOf(n)
	l.Server.Role = 2
	return l
}

func linksOf(n int) []impl.Link {
	var list []impl.Link
	for i := range n {
		list = append(list, linkOf(i, 0, 0, 0))
	}
	return list
}

// eventOf has the edges in it, and all kinds in turn.
func eventOf(n int, links int) impl.Event {
	e := impl.Event{Kind: int64(1 + n%3), Link: int64(n % links), Role: int64(1 + n/2%2), Context: contextOf(n), Cert: int64(1 + 14*n%99), By: int64(n % 10)}
	if e.Kind == 3 {
		e.Context = nil
	}
	return e
}

func eventsOf(n int, links int) []impl.Event {
	var list []impl.Event
	for i := range n {
		list = append(list, eventOf(i, links))
	}
	return list
}

// poolOf has pieces of 0 bytes and of 160, of which nothing can be read.
func poolOf(n int) [][]byte {
	var list [][]byte
	for i := range n {
		list = append(list, someBytes(32*i%192))
	}
	return list
}

func leakedOf(n int) []int64 {
	var list []int64
	for i := range n {
		list = append(list, int64(1+14*i%99))
	}
	return list
}

// issuedCerts are as IssueWorld issues them.
func issuedCerts(n int) []impl.Cert {
	var list []impl.Cert
	for i := range n {
		list = append(list, impl.Cert{Id: int64(i + 1), Owner: int64(1 + i%9), Until: int64(50 + 100*i)})
	}
	return list
}

// fullWorld has the most of all that there may be, and so many links.
func fullWorld(links int) impl.World {
	w := impl.World{Now: 9000, Certs: issuedCerts(8), Leaked: leakedOf(8), Signs: someSigns(40), Pool: poolOf(30), Events: eventsOf(60, links)}
	for i := range links {
		w.Links = append(w.Links, linkOf(i, 6, 34, 6))
	}
	return w
}

// begunWorld has two links of three principals, and a certificate of each.
func begunWorld(t *testing.T) impl.World {
	t.Helper()
	return goes(t, impl.World{},
		issuing(1, 20), issuing(2, 30), issuing(3, 9999), issuing(2, 5),
		linkingOf(clientPlain(), serverPlain(), 1, 2), linkingOf(serverPlain(), clientPlain(), 3, 2))
}

// livedWorld is one in which all kinds of steps were done: what is over, what
// was revoked, what was shown again, and what a thief has shown are in it.
func livedWorld(t *testing.T) impl.World {
	t.Helper()
	return goes(t, begunWorld(t),
		askingAt(0, 1, []byte{1}), answeringAt(0, 2, []byte{1}, 2), hearingAt(0, 1, 0),
		askingAt(0, 1, []byte{2}), answeringAt(0, 2, []byte{2}, 4), hearingAt(0, 1, 1),
		askingAt(0, 2, []byte{1}), answeringAt(0, 1, []byte{1}, 1), hearingAt(0, 2, 2),
		tickingBy(6), revokingAt(0, 1, 2),
		askingAt(1, 2, []byte{1}), askingAt(1, 1, someBytes(20)), answeringAt(1, 1, []byte{1}, 3), hearingAt(1, 2, 3),
		askingAt(0, 1, []byte{3}), answeringAt(0, 2, []byte{3}, 2), hearingAt(0, 1, 4),
		leakingOf(1), answeringAt(1, 2, someBytes(20), 1), hearingAt(1, 1, 5),
		askingAt(0, 1, []byte{4}), answeringAt(0, 2, []byte{4}, 1), tickingBy(1))
}

// goodWorlds have the edges as well.
func goodWorlds(t *testing.T) []impl.World {
	t.Helper()
	lived := livedWorld(t)
	return []impl.World{
		{},
		{Now: 9000, Certs: someCerts(8), Leaked: leakedOf(8)},
		{Certs: certsOfEdges(), Leaked: []int64{1, 99, 99}, Links: linksOf(1)},
		{Now: 1, Certs: issuedCerts(7), Leaked: []int64{3, 50}, Signs: someSigns(39), Links: linksOf(2), Pool: poolOf(29), Events: eventsOf(59, 2)},
		begunWorld(t),
		lived,
		changingWorld(lived, func(w *impl.World) { w.Pool = append(w.Pool, poolOf(23)...) }),
		changingWorld(lived, func(w *impl.World) { w.Pool = append(w.Pool, poolOf(24)[1:]...); w.Leaked = nil }),
		changingWorld(lived, func(w *impl.World) { w.Events = append(w.Events, eventsOf(60-len(w.Events), 2)...) }),
		changingWorld(lived, func(w *impl.World) { w.Signs = append(w.Signs, someSigns(40-len(w.Signs))...) }),
		changingWorld(lived, func(w *impl.World) { w.Links = append(w.Links, linkOf(2, 6, 34, 6), linkOf(3, 1, 39, 5)) }),
		fullWorld(1),
		fullWorld(4),
		changingWorld(fullWorld(4), func(w *impl.World) {
			w.Now, w.Pool, w.Events, w.Leaked = 8999, w.Pool[:29], w.Events[:59], w.Leaked[:7]
		}),
	}
}

type wrongWorld struct {
	name string
	w    impl.World
	code int64
}

// wrongWorlds have one fault each.
func wrongWorlds() []wrongWorld {
	good := impl.World{Now: 3, Certs: issuedCerts(3), Leaked: []int64{1, 2, 3}, Signs: someSigns(3), Links: linksOf(3), Pool: poolOf(3), Events: eventsOf(6, 3)}
	var list []wrongWorld
	add := func(name string, code int64, change func(w *impl.World)) {
		list = append(list, wrongWorld{name, changingWorld(good, change), code})
	}
	for _, now := range []int64{-1, 9001, math.MinInt64, math.MaxInt64} {
		add(fmt.Sprintf("now %d", now), impl.ErrRange, func(w *impl.World) { w.Now = now })
	}
	add("9 certificates", impl.ErrMany, func(w *impl.World) { w.Certs = issuedCerts(9) })
	add("a certificate twice", impl.ErrTaken, func(w *impl.World) { w.Certs[2].Id = 1 })
	add("a certificate that is none", impl.ErrRange, func(w *impl.World) { w.Certs[2].Until = 10000 })
	add("41 signatures", impl.ErrMany, func(w *impl.World) { w.Signs = someSigns(41) })
	add("a signature that is none", impl.ErrRange, func(w *impl.World) { w.Signs[2].By = 10 })
	add("a digest that is none", impl.ErrForm, func(w *impl.World) { w.Signs[2].Digest = someBytes(31) })
	add("9 leaked", impl.ErrMany, func(w *impl.World) { w.Leaked = leakedOf(9) })
	add("5 links", impl.ErrMany, func(w *impl.World) { w.Links = linksOf(5) })
	add("31 in the pool", impl.ErrMany, func(w *impl.World) { w.Pool = poolOf(31) })
	add("61 events", impl.ErrMany, func(w *impl.World) { w.Events = eventsOf(61, 3) })
	for at := range 3 {
		for _, id := range []int64{0, 100, -1, math.MinInt64, math.MaxInt64} {
			add(fmt.Sprintf("%d leaked at %d", id, at), impl.ErrRange, func(w *impl.World) { w.Leaked[at] = id })
		}
		for _, who := range []int64{0, 10, -1, math.MinInt64, math.MaxInt64} {
			add(fmt.Sprintf("A %d at %d", who, at), impl.ErrRange, func(w *impl.World) { w.Links[at].A = who })
			add(fmt.Sprintf("B %d at %d", who, at), impl.ErrRange, func(w *impl.World) { w.Links[at].B = who })
		}
		add(fmt.Sprintf("a client's exporter at %d", at), impl.ErrForm, func(w *impl.World) { w.Links[at].Client.Exporter = nil })
		add(fmt.Sprintf("a server's context at %d", at), impl.ErrMany, func(w *impl.World) { w.Links[at].Server.Used = [][]byte{nil} })
		add(fmt.Sprintf("a client's contexts at %d", at), impl.ErrTaken, func(w *impl.World) { w.Links[at].Client.Asked = [][]byte{{1}, {1}} })
		add(fmt.Sprintf("one role at %d", at), impl.ErrForm, func(w *impl.World) { w.Links[at].Server.Role = 1 })
		add(fmt.Sprintf("the other role at %d", at), impl.ErrForm, func(w *impl.World) { w.Links[at].Client.Role = 2 })
		add(fmt.Sprintf("two exporters at %d", at), impl.ErrForm, func(w *impl.World) { w.Links[at].Server.Exporter[9] ^= 4 })
		add(fmt.Sprintf("one of 161 bytes at %d", at), impl.ErrMany, func(w *impl.World) { w.Pool[at] = make([]byte, 161) })
	}
	for at := range 6 {
		add(fmt.Sprintf("an event of link 3 at %d", at), impl.ErrRange, func(w *impl.World) { w.Events[at].Link = 3 })
		add(fmt.Sprintf("an event of no kind at %d", at), impl.ErrRange, func(w *impl.World) { w.Events[at].Kind = 4 })
		add(fmt.Sprintf("an event of 21 bytes at %d", at), impl.ErrRange, func(w *impl.World) { w.Events[at].Context = someBytes(21) })
	}
	add("an accept of no context", impl.ErrRange, func(w *impl.World) { w.Events[1].Context = nil })
	add("a revoke of a context", impl.ErrRange, func(w *impl.World) { w.Events[2].Context = []byte{0} })
	return list
}

func TestWorldConstants(t *testing.T) {
	if impl.MaxLinks != 4 || impl.MaxPool != 30 || impl.MaxEvents != 60 || impl.EventCreate != 1 || impl.EventAccept != 2 || impl.EventRevoke != 3 {
		t.Error(impl.MaxLinks, impl.MaxPool, impl.MaxEvents, impl.EventCreate, impl.EventAccept, impl.EventRevoke)
	}
}

func TestWorldsKnown(t *testing.T) {
	// Exporters, digests and what is said were reckoned by Python's hmac and hashlib.
	w := impl.IssueWorld(impl.IssueWorld(impl.World{}, 1, 20).World, 2, 30).World
	w = impl.LinkWorld(w, clientPlain(), serverPlain(), 1, 2).World
	w = impl.LinkWorld(w, serverPlain(), clientPlain(), 1, 3).World
	w = impl.AskWorld(w, 0, 1, []byte{7}).World
	w = impl.AnswerWorld(w, 0, 2, []byte{7}, 2).World
	w = impl.AnswerWorld(w, 1, 1, []byte("ab"), 1).World
	w = impl.AnswerWorld(impl.LeakWorld(w, 1).World, 0, 2, []byte{8}, 1).World
	w = impl.HearWorld(w, 0, 1, 0).World
	one := hexed(t, "a535f072b36852f939fd0a08e5dc21f9f36f53ad7ffa9095c2a82aa6523c071b")
	two := hexed(t, "527610136d31fa29cf9feecf04897a9b7afea28009ae1c210ee02754807747b7")
	want := impl.World{
		Certs:  []impl.Cert{{Id: 1, Owner: 1, Until: 20}, {Id: 2, Owner: 2, Until: 30}},
		Leaked: []int64{1},
		Signs: []impl.Sign{
			{Cert: 2, By: 2, Digest: hexed(t, "83ed491b62215e437ae1c01e69f50f5390bb6819fe3b29d9252ef1660a2b6b9a")},
			{Cert: 1, By: 1, Digest: hexed(t, "a644e830b2c46bdf2dfe3bee67e0035fef3a2a22a463e5ca34eed891c579ca23")},
			{Cert: 1, By: 2, Digest: hexed(t, "2b97ed51de72cbf2a01ed7f98c0e81134bd5152c5241bc6f766112828ff8164b")},
		},
		Links: []impl.Link{
			{A: 1, B: 2, Client: impl.Session{Exporter: one, Role: 1, Used: [][]byte{{7}}, Held: []impl.Held{{Cert: 2, Until: 30}}}, Server: impl.Session{Exporter: one, Role: 2}},
			{A: 1, B: 3, Client: impl.Session{Exporter: two, Role: 1}, Server: impl.Session{Exporter: two, Role: 2}},
		},
		Pool: [][]byte{
			hexed(t, "0107040202001e0100207f63ce7e750f4575cc9ba1544fab0dd2909ce8d97cbf8a035e50cf06472993e4"),
			hexed(t, "02616204010100140101209bb9612b86649c9ef7aa13da60f28f81e66369c28d249f993bf881c9a8dfacf5"),
			hexed(t, "010804010100140102205968f6c71ea816a1052d37060c3137ae2457ed954a55c861e1280128ea72aa6e"),
		},
		Events: []impl.Event{
			{Kind: 1, Link: 0, Role: 2, Context: []byte{7}, Cert: 2, By: 2},
			{Kind: 1, Link: 1, Role: 1, Context: []byte("ab"), Cert: 1, By: 1},
			{Kind: 1, Link: 0, Role: 2, Context: []byte{8}, Cert: 1, By: 2},
			{Kind: 2, Link: 0, Role: 2, Context: []byte{7}, Cert: 2, By: 2},
		},
	}
	sameWorld(t, "a world", impl.WorldResult{World: w}, impl.WorldResult{World: want})
	isRight(t, "a world", want, true, true)
}

func TestWorldFaultOfCounts(t *testing.T) {
	for _, now := range []int64{math.MinInt64, -1, 0, 9000, 9001, math.MaxInt64} {
		for _, certs := range []int{0, 7, 8, 9} {
			for _, leaked := range []int{0, 7, 8, 9} {
				for _, signs := range []int{0, 39, 40, 41} {
					for _, links := range []int{3, 4, 5} {
						for _, pool := range []int{0, 29, 30, 31} {
							for _, events := range []int{0, 59, 60, 61} {
								w := impl.World{Now: now, Certs: issuedCerts(certs), Leaked: leakedOf(leaked), Signs: someSigns(signs), Links: linksOf(links), Pool: poolOf(pool), Events: eventsOf(events, links)}
								name := fmt.Sprintf("now %d, %d certificates, %d leaked, %d signatures, %d links, %d in the pool, %d events", now, certs, leaked, signs, links, pool, events)
								sameCode(t, name, impl.WorldFault(w), worldFaultByHand(w))
							}
						}
					}
				}
			}
		}
	}
}

func TestWorldFaultOfOneFault(t *testing.T) {
	for i, w := range goodWorlds(t) {
		sameCode(t, fmt.Sprintf("world %d", i), impl.WorldFault(w), impl.OK)
		sameCode(t, fmt.Sprintf("world %d by hand", i), worldFaultByHand(w), impl.OK)
	}
	for _, x := range wrongWorlds() {
		sameCode(t, x.name, impl.WorldFault(x.w), x.code)
		sameCode(t, x.name+" by hand", worldFaultByHand(x.w), x.code)
	}
}

func TestWorldFaultOfLeaked(t *testing.T) {
	for id := int64(-3); id < 104; id++ {
		for at := range 8 {
			w := impl.World{Leaked: leakedOf(8)}
			w.Leaked[at] = id
			sameCode(t, fmt.Sprintf("%d at %d", id, at), impl.WorldFault(w), whenRange(id < 1 || id > 99))
		}
	}
	// They need be of no certificate, and may be there twice.
	sameCode(t, "twice", impl.WorldFault(impl.World{Leaked: []int64{5, 5}}), impl.OK)
}

func TestWorldFaultOfLinks(t *testing.T) {
	principals := []int64{math.MinInt64, -1, 0, 1, 9, 10, 257, math.MaxInt64}
	for at := range 4 {
		for _, a := range principals {
			for _, b := range principals {
				w := impl.World{Links: linksOf(4)}
				w.Links[at].A, w.Links[at].B = a, b
				sameCode(t, fmt.Sprintf("A %d, B %d at %d", a, b, at), impl.WorldFault(w), worldFaultByHand(w))
			}
		}
		for _, client := range rolesAsked() {
			for _, server := range rolesAsked() {
				w := impl.World{Links: linksOf(4)}
				w.Links[at].Client.Role, w.Links[at].Server.Role = client, server
				sameCode(t, fmt.Sprintf("roles %d and %d at %d", client, server, at), impl.WorldFault(w), worldFaultByHand(w))
			}
		}
		for bit := range 256 {
			w := impl.World{Links: linksOf(4)}
			w.Links[at].Client.Exporter = changed(w.Links[at].Client.Exporter, bit)
			sameCode(t, fmt.Sprintf("exporters that part at bit %d, at %d", bit, at), impl.WorldFault(w), impl.ErrForm)
			w.Links[at].Server.Exporter = bytes.Clone(w.Links[at].Client.Exporter)
			sameCode(t, "exporters that are both changed", impl.WorldFault(w), impl.OK)
		}
	}
}

func TestWorldFaultOfSessions(t *testing.T) {
	for _, x := range wrongSessions() {
		for at := range 2 {
			w := impl.World{Links: linksOf(2)}
			w.Links[at].Client = x.x
			sameCode(t, x.name+": a client", impl.WorldFault(w), x.code)
			w = impl.World{Links: linksOf(2)}
			w.Links[at].Server = x.x
			sameCode(t, x.name+": a server", impl.WorldFault(w), x.code)
		}
		for _, y := range wrongSessions() {
			w := impl.World{Links: []impl.Link{{A: 1, B: 1, Client: x.x, Server: y.x}}}
			sameCode(t, x.name+", "+y.name, impl.WorldFault(w), x.code)
		}
	}
	for i, x := range goodSessions() {
		for j, y := range goodSessions() {
			w := impl.World{Links: []impl.Link{{A: 1, B: 1, Client: x, Server: y}}}
			sameCode(t, fmt.Sprintf("sessions %d and %d", i, j), impl.WorldFault(w), worldFaultByHand(w))
		}
	}
}

func TestWorldFaultOfThePool(t *testing.T) {
	for _, n := range []int{0, 1, 61, 159, 160, 161, 162, 416, 601} {
		for at := range 30 {
			w := impl.World{Pool: poolOf(30)}
			w.Pool[at] = someBytes(n)
			sameCode(t, fmt.Sprintf("%d bytes at %d", n, at), impl.WorldFault(w), when(n > 160, impl.ErrMany))
		}
	}
	sameCode(t, "nothing in the pool", impl.WorldFault(impl.World{Pool: [][]byte{nil, {}}}), impl.OK)
}

func TestWorldFaultOfEvents(t *testing.T) {
	kinds := []int64{math.MinInt64, -1, 0, 1, 2, 3, 4, 257, math.MaxInt64}
	links := []int64{math.MinInt64, -1, 0, 1, 2, 256, math.MaxInt64}
	roles := []int64{math.MinInt64, 0, 1, 2, 3, 258}
	certs := []int64{math.MinInt64, -1, 0, 1, 99, 100, 257, math.MaxInt64}
	givers := []int64{math.MinInt64, -1, 0, 9, 10, 256, math.MaxInt64}
	w := impl.World{Links: linksOf(2), Events: make([]impl.Event, 1)}
	for _, kind := range kinds {
		for _, link := range links {
			for _, role := range roles {
				for _, n := range []int{0, 1, 20, 21, 257} {
					for _, cert := range certs {
						for _, by := range givers {
							e := impl.Event{Kind: kind, Link: link, Role: role, Context: make([]byte, n), Cert: cert, By: by}
							w.Events[0] = e
							sameCode(t, fmt.Sprintf("%+v", e), impl.WorldFault(w), whenRange(hasNoEvent(e, 2)))
						}
					}
				}
			}
		}
	}
	// With no link there is no event.
	sameCode(t, "an event without a link", impl.WorldFault(impl.World{Events: eventsOf(1, 1)}), impl.ErrRange)
	for n := range 5 {
		for link := int64(-1); link < 6; link++ {
			w := impl.World{Links: linksOf(n), Events: []impl.Event{{Kind: 3, Link: link, Role: 1, Cert: 1}}}
			sameCode(t, fmt.Sprintf("link %d of %d", link, n), impl.WorldFault(w), whenRange(link < 0 || link >= int64(n)))
		}
	}
}

func TestWorldFaultCodesInOrder(t *testing.T) {
	// Each row has one wrong thing less than the one ahead.
	certs, signs := issuedCerts(2), someSigns(2)
	none, short := impl.Cert{Id: 3}, impl.Sign{Cert: 1, Digest: someBytes(31)}
	leaked, pool, events := []int64{1, 100}, [][]byte{someBytes(161)}, []impl.Event{{}}
	good := linkOf(1, 2, 2, 2)
	// Link by link: what is wrong with the first one is told.
	formFirst := []impl.Link{changingLink(good, func(l *impl.Link) { l.Server.Role = 1 }), {}}
	rangeBehind := []impl.Link{good, {A: 10}, formFirst[0]}
	clientFirst := changingLink(good, func(l *impl.Link) { l.Client.Asked[1] = l.Client.Asked[0]; l.Server.Used[0] = nil; l.Server.Role = 1 })
	serverNext := changingLink(good, func(l *impl.Link) { l.Client.Role = 2; l.Server.Used[0] = nil; l.Server.Exporter[0] ^= 1 })
	principalFirst := changingLink(clientFirst, func(l *impl.Link) { l.B = 0 })
	rows := []struct {
		w    impl.World
		code int64
	}{
		{impl.World{Now: -1, Certs: issuedCerts(9), Signs: someSigns(41), Leaked: leakedOf(9), Links: make([]impl.Link, 5), Pool: make([][]byte, 31), Events: make([]impl.Event, 61)}, impl.ErrRange},
		{impl.World{Now: 9000, Certs: issuedCerts(9), Signs: []impl.Sign{short}, Leaked: leaked, Links: formFirst, Pool: pool, Events: events}, impl.ErrMany},
		{impl.World{Certs: append(certs, certs[0], none), Signs: []impl.Sign{short}, Leaked: leaked, Links: formFirst, Pool: pool, Events: events}, impl.ErrTaken},
		{impl.World{Certs: append(certs, none, certs[0]), Signs: []impl.Sign{short}, Leaked: leaked, Links: formFirst, Pool: pool, Events: events}, impl.ErrRange},
		{impl.World{Certs: certs, Signs: someSigns(41), Leaked: leaked, Links: formFirst, Pool: pool, Events: events}, impl.ErrMany},
		{impl.World{Certs: certs, Signs: []impl.Sign{short, {}}, Leaked: leakedOf(9), Links: formFirst, Pool: pool, Events: events}, impl.ErrForm},
		// Too many of one kind are told ahead of what is wrong in the others.
		{impl.World{Certs: certs, Signs: signs, Leaked: leakedOf(9), Links: formFirst, Pool: pool, Events: events}, impl.ErrMany},
		{impl.World{Certs: certs, Signs: signs, Leaked: leaked, Links: make([]impl.Link, 5), Pool: pool, Events: events}, impl.ErrMany},
		{impl.World{Certs: certs, Signs: signs, Leaked: leaked, Links: formFirst, Pool: poolOf(31), Events: events}, impl.ErrMany},
		{impl.World{Certs: certs, Signs: signs, Leaked: leaked, Links: formFirst, Pool: nil, Events: make([]impl.Event, 61)}, impl.ErrMany},
		{impl.World{Certs: certs, Signs: signs, Leaked: leaked, Links: formFirst, Pool: pool, Events: events}, impl.ErrRange},
		{impl.World{Certs: certs, Signs: signs, Leaked: leaked[:1], Links: []impl.Link{principalFirst}, Pool: pool, Events: events}, impl.ErrRange},
		{impl.World{Certs: certs, Signs: signs, Leaked: leaked[:1], Links: []impl.Link{clientFirst, {}}, Pool: pool, Events: events}, impl.ErrTaken},
		{impl.World{Certs: certs, Signs: signs, Leaked: leaked[:1], Links: []impl.Link{serverNext, {}}, Pool: pool, Events: events}, impl.ErrMany},
		{impl.World{Certs: certs, Signs: signs, Leaked: leaked[:1], Links: formFirst, Pool: pool, Events: events}, impl.ErrForm},
		{impl.World{Certs: certs, Signs: signs, Leaked: leaked[:1], Links: rangeBehind, Pool: pool, Events: events}, impl.ErrRange},
		{impl.World{Certs: certs, Signs: signs, Leaked: leaked[:1], Links: []impl.Link{good}, Pool: pool, Events: events}, impl.ErrMany},
		{impl.World{Certs: certs, Signs: signs, Leaked: leaked[:1], Links: []impl.Link{good}, Pool: [][]byte{nil}, Events: events}, impl.ErrRange},
		{impl.World{Certs: certs, Signs: signs, Leaked: leaked[:1], Links: []impl.Link{good}, Pool: [][]byte{nil}, Events: eventsOf(1, 1)}, impl.OK},
	}
	for i, r := range rows {
		name := fmt.Sprintf("row %d", i)
		sameCode(t, name, impl.WorldFault(r.w), r.code)
		sameCode(t, name+" by hand", worldFaultByHand(r.w), r.code)
		if r.code != impl.OK {
			allAskWorldFault(t, name, r.w, r.code)
		}
	}
}

func changingLink(l impl.Link, change func(l *impl.Link)) impl.Link {
	other := cloneLinks([]impl.Link{l})[0]
	change(&other)
	return other
}

// allAskWorldFault sees that all others ask it first, whatever else is wrong.
func allAskWorldFault(t *testing.T, name string, w impl.World, code int64) {
	t.Helper()
	steps := []worldStep{
		issuing(1, 1), issuing(0, -1), linkingOf(clientPlain(), serverPlain(), 1, 2), linkingOf(impl.Side{}, impl.Side{}, 0, 10),
		askingAt(0, 1, []byte{1}), askingAt(-1, 3, nil), answeringAt(0, 1, []byte{1}, 1), answeringAt(9, 0, nil, 0),
		hearingAt(0, 1, 0), hearingAt(7, 7, 77), revokingAt(0, 2, 2), revokingAt(-1, -1, -1), leakingOf(1), leakingOf(0), tickingBy(0), tickingBy(-1),
	}
	for _, s := range steps {
		refusesStep(t, name, w, s, code)
	}
	isRight(t, name, w, false, false)
}

func TestWorldFaultsAreAskedFirst(t *testing.T) {
	for _, x := range wrongWorlds() {
		allAskWorldFault(t, x.name, x.w, x.code)
	}
}

func placesOfLinks(n int) []int64 {
	return []int64{math.MinInt64, -1, 0, 1, int64(n) - 1, int64(n), 256, math.MaxInt64}
}

func rolesOfSteps() []int64 {
	return []int64{math.MinInt64, -1, 0, 1, 2, 3, math.MaxInt64}
}

func contextsOfSteps() [][]byte {
	return [][]byte{nil, {}, {1}, {4}, {77}, someBytes(20), someBytes(21), contextOf(100), contextOf(200)}
}

func certsOfSteps() []int64 {
	return []int64{math.MinInt64, -1, 0, 1, 2, 3, 4, 8, 9, 18, 99, 100, 258, math.MaxInt64}
}

func eachEnd(w impl.World, visit func(link int64, role int64)) {
	for _, link := range placesOfLinks(len(w.Links)) {
		for _, role := range rolesOfSteps() {
			visit(link, role)
		}
	}
}

func eachGoodWorld(t *testing.T, visit func(name string, w impl.World)) {
	t.Helper()
	for i, w := range goodWorlds(t) {
		visit(fmt.Sprintf("world %d", i), w)
	}
}

func TestIssueWorld(t *testing.T) {
	eachGoodWorld(t, func(name string, w impl.World) {
		for _, owner := range ownersAsked() {
			for _, until := range untilsAsked() {
				issuing(owner, until).sees(t, name, w)
			}
		}
	})
	// One behind the other, until there is no room.
	w := impl.World{}
	for i := range 8 {
		w = goes(t, w, issuing(int64(9-i), int64(1111*i)))
		if last := w.Certs[i]; len(w.Certs) != i+1 || last != (impl.Cert{Id: int64(i + 1), Owner: int64(9 - i), Until: int64(1111 * i)}) {
			t.Errorf("certificate %d: %+v", i, w.Certs)
		}
	}
	refusesStep(t, "nine", w, issuing(1, 1), impl.ErrMany)
	refusesStep(t, "nine, and no owner", w, issuing(10, 1), impl.ErrRange)
	// One of that Id is there already, at each place.
	for n := 1; n < 8; n++ {
		for at := range n {
			w := impl.World{Certs: someCerts(8)[1 : n+1]}
			w.Certs[at].Id = int64(n + 1)
			refusesStep(t, fmt.Sprintf("%d of %d", at, n), w, issuing(1, 1), impl.ErrTaken)
			refusesStep(t, fmt.Sprintf("%d of %d, and no owner", at, n), w, issuing(0, 1), impl.ErrRange)
		}
	}
	// With eight there is no room, whatever their Ids are.
	refusesStep(t, "eight, one of them of the Id 9", changingWorld(w, func(w *impl.World) { w.Certs[0].Id = 9 }), issuing(1, 1), impl.ErrMany)
}

func TestLinkWorld(t *testing.T) {
	eachGoodWorld(t, func(name string, w impl.World) {
		for _, a := range []int64{math.MinInt64, -1, 0, 1, 5, 9, 10, math.MaxInt64} {
			for _, b := range []int64{0, 1, 9, 10, 257} {
				linkingOf(clientPlain(), serverPlain(), a, b).sees(t, name, w)
			}
		}
	})
	for n := range 5 {
		w := impl.World{Links: linksOf(n)}
		for _, k := range keyPairs() {
			got := linkingOf(k.client, k.server, 9, 1).sees(t, k.name, w)
			sameCode(t, k.name, got.Code, whenLimit(n == 4))
			if n == 4 {
				continue
			}
			pair := impl.PairOf(k.client, k.server)
			last := got.World.Links[n]
			sameList(t, k.name+": Client", impl.BytesResult{Bytes: last.Client.Exporter}, impl.OK, pair.Client.Secrets.Exporter)
			sameList(t, k.name+": Server", impl.BytesResult{Bytes: last.Server.Exporter}, impl.OK, pair.Server.Secrets.Exporter)
		}
		wrongSides(func(name string, s impl.Side, code int64) {
			code = firstCode(whenLimit(n == 4), code)
			refusesStep(t, "a client: "+name, w, linkingOf(s, serverPlain(), 1, 2), code)
			refusesStep(t, "a server: "+name, w, linkingOf(clientPlain(), s, 1, 2), code)
			refusesStep(t, "both: "+name, w, linkingOf(s, impl.Side{}, 1, 2), code)
			refusesStep(t, "nobody: "+name, w, linkingOf(s, s, 1, 10), impl.ErrRange)
		})
		two := linkingOf(keyedBy(clientPlain(), 3, rising(32)), keyedBy(serverPlain(), 3, someBytes(32)), 1, 2)
		refusesStep(t, "two keys of one number", w, two, firstCode(whenLimit(n == 4), impl.ErrSign))
	}
}

func TestAskWorld(t *testing.T) {
	eachGoodWorld(t, func(name string, w impl.World) {
		eachEnd(w, func(link int64, role int64) {
			for _, context := range contextsOfSteps() {
				askingAt(link, role, context).sees(t, name, w)
			}
		})
	})
	// It is asked by one session, and no event tells of it.
	w := goes(t, begunWorld(t), askingAt(1, 2, []byte{9}))
	want := changingWorld(begunWorld(t), func(w *impl.World) { w.Links[1].Server.Asked = [][]byte{{9}} })
	sameWorld(t, "asked", impl.WorldResult{World: w}, impl.WorldResult{World: want})
}

func TestAnswerWorld(t *testing.T) {
	eachGoodWorld(t, func(name string, w impl.World) {
		eachEnd(w, func(link int64, role int64) {
			for _, context := range contextsOfSteps() {
				for _, cert := range certsOfSteps() {
					answeringAt(link, role, context, cert).sees(t, name, w)
				}
			}
		})
	})
	// Nobody needs to have asked, and one may answer with what is over.
	w := goes(t, begunWorld(t), tickingBy(100), answeringAt(0, 1, []byte{9}, 1), answeringAt(1, 2, []byte{9}, 2))
	sameInt(t, "signatures", impl.IntResult{Value: int64(len(w.Signs))}, impl.OK, 2)
}

func TestHearWorld(t *testing.T) {
	eachGoodWorld(t, func(name string, w impl.World) {
		eachEnd(w, func(link int64, role int64) {
			for _, at := range append(placesOfLinks(len(w.Pool)), 2, 3, 4, 5, 6) {
				hearingAt(link, role, at).sees(t, name, w)
			}
		})
	})
}

func TestRevokeWorld(t *testing.T) {
	eachGoodWorld(t, func(name string, w impl.World) {
		eachEnd(w, func(link int64, role int64) {
			for _, cert := range certsOfSteps() {
				revokingAt(link, role, cert).sees(t, name, w)
			}
		})
	})
	// Four links leave room for an event, and so does a full pool.
	w := changingWorld(fullWorld(4), func(w *impl.World) { w.Events = w.Events[:59] })
	got := revokingAt(3, 1, 18).sees(t, "four links", w)
	sameCode(t, "four links", got.Code, impl.OK)
	refusesStep(t, "no room any more", got.World, revokingAt(3, 1, 2), impl.ErrLimit)
	refusesStep(t, "no room, nor a certificate", got.World, revokingAt(3, 1, 3), impl.ErrLimit)
}

func TestLeakWorld(t *testing.T) {
	eachGoodWorld(t, func(name string, w impl.World) {
		for id := int64(-2); id < 103; id++ {
			leakingOf(id).sees(t, name, w)
		}
		for _, id := range idsAsked() {
			leakingOf(id).sees(t, name, w)
		}
	})
	// All of them, some twice, in any order.
	w := impl.World{Certs: issuedCerts(8)}
	var leaked []int64
	for _, id := range []int64{3, 8, 3, 1, 1, 2, 4, 5, 8, 7, 6, 6, 3} {
		w = goes(t, w, leakingOf(id))
		if !slices.Contains(leaked, id) {
			leaked = append(leaked, id)
		}
		if !slices.Equal(w.Leaked, leaked) {
			t.Errorf("%v is leaked, want %v", w.Leaked, leaked)
		}
	}
	// What is there stays as it is, though there is no room for another one.
	full := impl.World{Certs: issuedCerts(3), Leaked: []int64{2, 99, 98, 97, 96, 95, 94, 2}}
	refusesStep(t, "full", full, leakingOf(1), impl.ErrMany)
	refusesStep(t, "full, and no certificate", full, leakingOf(4), impl.ErrNone)
	refusesStep(t, "leaked, but no certificate", full, leakingOf(99), impl.ErrNone)
	sameWorld(t, "there already", impl.LeakWorld(full, 2), impl.WorldResult{World: full})
}

func TestTickWorld(t *testing.T) {
	ticks := []int64{math.MinInt64, math.MinInt64 + 1, -9000, -1, 0, 1, 50, 99, 100, 101, 102, 256, 9000, math.MaxInt64 - 1, math.MaxInt64}
	eachGoodWorld(t, func(name string, w impl.World) {
		for _, n := range ticks {
			tickingBy(n).sees(t, name, w)
		}
	})
	for _, now := range []int64{0, 1, 8899, 8900, 8901, 8999, 9000} {
		for _, n := range ticks {
			w := impl.World{Now: now}
			got := tickingBy(n).sees(t, fmt.Sprintf("at %d", now), w)
			sameCode(t, fmt.Sprintf("at %d by %d", now, n), got.Code, whenRange(n < 0 || n > 100 || now+n > 9000))
		}
	}
}

func TestTickWorldAtUntil(t *testing.T) {
	// In each session of each link: until just below Now, until Now and above it.
	for now := int64(100); now < 110; now++ {
		w := impl.World{Now: 90, Certs: issuedCerts(3), Links: linksOf(4)}
		for i := range w.Links {
			w.Links[i].Client.Held = []impl.Held{{Cert: 1, Until: 89}, {Cert: 2, Until: 90}, {Cert: 3, Until: int64(100 + i)}, {Cert: 40, Until: int64(104 + i)}}
			w.Links[i].Server.Held = []impl.Held{{Cert: 5, Until: int64(101 + i)}, {Cert: 6, Until: 9999}, {Cert: 7, Until: now}, {Cert: 8, Until: now - 1}, {Cert: 9, Until: now + 1}}
		}
		got := tickingBy(now-90).sees(t, fmt.Sprintf("at %d", now), w)
		for i, l := range got.World.Links {
			for cert, until := range map[int64]int64{3: int64(100 + i), 40: int64(104 + i)} {
				sameBool(t, fmt.Sprintf("%d of client %d at %d", cert, i, now), holdsCert(l.Client.Held, cert), until >= now)
			}
			for cert, until := range map[int64]int64{5: int64(101 + i), 6: 9999, 7: now, 8: now - 1, 9: now + 1} {
				sameBool(t, fmt.Sprintf("%d of server %d at %d", cert, i, now), holdsCert(l.Server.Held, cert), until >= now)
			}
		}
	}
}

func TestStepCodesInOrder(t *testing.T) {
	// Each row of a step has one wrong thing less than the one ahead.
	full, lived := fullWorld(4), livedWorld(t)
	roomy := changingWorld(full, func(w *impl.World) { w.Pool, w.Events = w.Pool[:29], w.Events[:59] })
	fullPool := changingWorld(full, func(w *impl.World) { w.Events = w.Events[:59] })
	fullEvents := changingWorld(full, func(w *impl.World) { w.Pool = w.Pool[:29] })
	signed := changingWorld(roomy, func(w *impl.World) { w.Signs = w.Signs[:39] })
	wrong := changingWorld(full, func(w *impl.World) { w.Events[59].Kind = 0 })
	rows := []struct {
		s    worldStep
		w    impl.World
		code int64
	}{
		{issuing(0, -1), wrong, impl.ErrRange},
		{issuing(0, 5), full, impl.ErrRange},
		{issuing(1, 10000), full, impl.ErrRange},
		{issuing(1, 5), full, impl.ErrMany},
		{issuing(1, 5), impl.World{Certs: []impl.Cert{{Id: 2, Owner: 1}}}, impl.ErrTaken},
		{linkingOf(impl.Side{}, impl.Side{}, 0, 1), full, impl.ErrRange},
		{linkingOf(impl.Side{}, impl.Side{}, 1, 10), full, impl.ErrRange},
		{linkingOf(impl.Side{}, impl.Side{}, 1, 9), full, impl.ErrLimit},
		{linkingOf(impl.Side{}, impl.Side{Secret: 1}, 1, 9), lived, impl.ErrRange},
		{linkingOf(clientPlain(), impl.Side{Secret: 1}, 1, 9), lived, impl.ErrForm},
		{linkingOf(clientPlain(), serverPlain(), 1, 9), lived, impl.OK},
		{askingAt(4, 0, nil), full, impl.ErrNone},
		{askingAt(3, 0, nil), full, impl.ErrRange},
		{askingAt(3, 1, nil), full, impl.ErrMany},
		{askingAt(3, 1, contextOf(100)), full, impl.ErrTaken},
		{askingAt(3, 1, contextOf(200)), full, impl.ErrTaken},
		{askingAt(3, 1, []byte{1}), full, impl.ErrLimit},
		{answeringAt(-1, 3, nil, 0), full, impl.ErrNone},
		{answeringAt(0, 3, nil, 0), full, impl.ErrRange},
		{answeringAt(0, 2, nil, 0), full, impl.ErrLimit},
		{answeringAt(0, 2, nil, 0), fullPool, impl.ErrLimit},
		{answeringAt(0, 2, nil, 0), fullEvents, impl.ErrLimit},
		{answeringAt(0, 2, nil, 0), roomy, impl.ErrMany},
		{answeringAt(0, 2, someBytes(21), 2), roomy, impl.ErrMany},
		{answeringAt(0, 2, []byte{1}, 0), roomy, impl.ErrNone},
		{answeringAt(0, 2, []byte{1}, 9), roomy, impl.ErrNone},
		{answeringAt(0, 2, []byte{1}, 2), roomy, impl.ErrSign},
		{answeringAt(0, 1, []byte{1}, 1), roomy, impl.ErrMany},
		{answeringAt(0, 1, []byte{1}, 1), signed, impl.OK},
		{answeringAt(0, 2, []byte{1}, 1), signed, impl.OK},
		{hearingAt(4, 3, -1), full, impl.ErrNone},
		{hearingAt(3, 3, -1), full, impl.ErrRange},
		{hearingAt(3, 2, -1), full, impl.ErrLimit},
		{hearingAt(3, 2, 0), fullEvents, impl.ErrLimit},
		{hearingAt(3, 2, -1), fullPool, impl.ErrRange},
		{hearingAt(3, 2, 30), fullPool, impl.ErrRange},
		{hearingAt(3, 2, 29), fullPool, impl.ErrText},
		{hearingAt(0, 1, 1), lived, impl.ErrOld},
		{hearingAt(0, 1, 3), lived, impl.ErrSign},
		{hearingAt(0, 1, 0), lived, impl.ErrState},
		{hearingAt(0, 1, 6), lived, impl.OK},
		{revokingAt(4, 0, 0), full, impl.ErrNone},
		{revokingAt(3, 0, 0), full, impl.ErrRange},
		{revokingAt(3, 1, 0), full, impl.ErrLimit},
		{revokingAt(3, 1, 0), fullPool, impl.ErrNone},
		{revokingAt(3, 1, 2), fullPool, impl.OK},
		{leakingOf(9), full, impl.ErrNone},
		{leakingOf(2), full, impl.ErrMany},
		{leakingOf(1), full, impl.OK},
		{tickingBy(-1), full, impl.ErrRange},
		{tickingBy(1), full, impl.ErrRange},
		{tickingBy(0), full, impl.OK},
	}
	for i, r := range rows {
		got := r.s.sees(t, fmt.Sprintf("row %d", i), r.w)
		sameCode(t, fmt.Sprintf("row %d: %s", i, r.s.name), got.Code, r.code)
	}
}

// endsOfTwo are all sessions of two links.
func endsOfTwo() [][2]int64 {
	return [][2]int64{{0, 1}, {0, 2}, {1, 1}, {1, 2}}
}

// allAsk has the same contexts asked for by all sessions of two links.
func allAsk(t *testing.T, w impl.World, contexts ...[]byte) impl.World {
	t.Helper()
	for _, end := range endsOfTwo() {
		for _, context := range contexts {
			w = goes(t, w, askingAt(end[0], end[1], context))
		}
	}
	return w
}

// ownCert is the first certificate of who stands at that end.
func ownCert(w impl.World, link int64, role int64) int64 {
	_, who := endOfWorld(&w, link, role)
	return w.Certs[slices.IndexFunc(w.Certs, func(c impl.Cert) bool { return c.Owner == who })].Id
}

func TestP16WhatWasSaidElsewhereIsNotBelieved(t *testing.T) {
	for _, context := range [][]byte{{7}, {0}, someBytes(20)} {
		begun := allAsk(t, begunWorld(t), context)
		for _, said := range endsOfTwo() {
			w := goes(t, begun, answeringAt(said[0], said[1], context, ownCert(begun, said[0], said[1])))
			for _, heard := range endsOfTwo() {
				name := fmt.Sprintf("said at %v, heard at %v", said, heard)
				got := hearingAt(heard[0], heard[1], 0).sees(t, name, w)
				// It is heard by the other one of that link alone.
				own := said[0] == heard[0] && said[1] != heard[1]
				sameCode(t, name, got.Code, when(!own, impl.ErrSign))
				if own {
					isRight(t, name, got.World, true, true)
				}
			}
			// All have signed the same by their own: still none of it is heard elsewhere.
			all := w
			for _, other := range endsOfTwo() {
				if other != said {
					all = goes(t, all, answeringAt(other[0], other[1], context, ownCert(begun, other[0], other[1])))
				}
			}
			for _, heard := range endsOfTwo() {
				own := said[0] == heard[0] && said[1] != heard[1]
				got := hearingAt(heard[0], heard[1], 0).sees(t, "of all", all)
				sameCode(t, fmt.Sprintf("of all, said at %v, heard at %v", said, heard), got.Code, when(!own, impl.ErrSign))
			}
		}
	}
}

func TestP16AContextThatWasNotAskedThereIsNotBelieved(t *testing.T) {
	for _, said := range endsOfTwo() {
		link, role := said[0], said[1]
		begun := goes(t, begunWorld(t), askingAt(link, 3-role, []byte{1, 2}))
		cert := ownCert(begun, link, role)
		for _, context := range [][]byte{{1}, {2}, {1, 3}, {1, 2, 0}, {0, 1, 2}, someBytes(20)} {
			w := goes(t, begun, answeringAt(link, role, context, cert))
			refusesStep(t, "asked for another one", w, hearingAt(link, 3-role, 0), impl.ErrState)
			// Others asked for it, elsewhere.
			for _, end := range endsOfTwo() {
				if end != [2]int64{link, 3 - role} {
					w = goes(t, w, askingAt(end[0], end[1], context))
				}
			}
			refusesStep(t, "asked for elsewhere", w, hearingAt(link, 3-role, 0), impl.ErrState)
			w = goes(t, w, askingAt(link, 3-role, context), hearingAt(link, 3-role, 0))
			isRight(t, "asked for behind it", w, true, true)
		}
	}
}

func TestP16LinksOfOneExporterAreOne(t *testing.T) {
	// Sides that are the same come to the same keys, so what is said on one is heard on both, once each.
	w := goes(t, impl.World{}, issuing(2, 30), linkingOf(clientPlain(), serverPlain(), 1, 2), linkingOf(clientPlain(), serverPlain(), 3, 2))
	w = goes(t, allAsk(t, w, []byte{7}), answeringAt(0, 2, []byte{7}, 1), hearingAt(1, 1, 0), hearingAt(0, 1, 0))
	refusesStep(t, "again", w, hearingAt(1, 1, 0), impl.ErrState)
	refusesStep(t, "by the other role", w, hearingAt(1, 2, 0), impl.ErrSign)
	isRight(t, "one exporter", w, true, true)
}

func TestP16WhatWasSaidIsHeardInAnyOrderAndOnce(t *testing.T) {
	contexts := [][]byte{{0}, {1}, {2}, someBytes(20)}
	begun := allAsk(t, begunWorld(t), contexts...)
	for i, context := range contexts {
		begun = goes(t, begun, answeringAt(0, 2, context, []int64{2, 4, 2, 4}[i]))
	}
	visitAll([]byte{0, 1, 2, 3}, 4, func(order []byte) {
		w, seen := begun, map[byte]int{}
		for _, b := range order {
			got := hearingAt(0, 1, int64(b)).sees(t, fmt.Sprint(order), w)
			sameCode(t, fmt.Sprintf("%d of %v", b, order), got.Code, whenState(seen[b] > 0))
			seen[b]++
			if got.Code == impl.OK {
				w = got.World
			}
		}
		isRight(t, fmt.Sprint(order), w, true, true)
		if len(w.Events) != 4+len(seen) || len(w.Links[0].Client.Used) != len(seen) {
			t.Errorf("%v: %+v", order, w.Events)
		}
	})
}

func TestP16AContextIsNotAnsweredTwice(t *testing.T) {
	context := []byte{7}
	w := goes(t, begunWorld(t), askingAt(0, 1, context), answeringAt(0, 2, context, 2), answeringAt(0, 2, context, 4), answeringAt(0, 2, context, 2))
	for first := range int64(3) {
		heard := goes(t, w, hearingAt(0, 1, first))
		for second := range int64(3) {
			refusesStep(t, fmt.Sprintf("%d behind %d", second, first), heard, hearingAt(0, 1, second), impl.ErrState)
		}
		refusesStep(t, "asked again", heard, askingAt(0, 1, context), impl.ErrTaken)
		later := goes(t, heard, revokingAt(0, 1, heard.Links[0].Client.Held[0].Cert), tickingBy(1), answeringAt(0, 2, context, 2))
		refusesStep(t, "said anew", later, hearingAt(0, 1, 3), impl.ErrState)
		isRight(t, "said anew", later, true, true)
		// The others may still ask for it.
		goes(t, later, askingAt(0, 2, context), askingAt(1, 1, context), askingAt(1, 2, context))
	}
}

func TestP16OnlyTheOwnerSignsOrALeakedKeyDoes(t *testing.T) {
	for a := int64(1); a <= 9; a++ {
		begun := impl.World{}
		for owner := int64(2); owner <= 9; owner++ {
			begun = goes(t, begun, issuing(owner, 5000))
		}
		begun = goes(t, begun, linkingOf(clientPlain(), serverPlain(), a, 10-a), askingAt(0, 1, []byte{1}), askingAt(0, 2, []byte{1}))
		for cert := int64(1); cert <= 8; cert++ {
			for _, w := range []impl.World{begun, goes(t, begun, leakingOf(cert)), goes(t, begun, leakingOf(cert%8+1))} {
				for role, who := range map[int64]int64{1: a, 2: 10 - a} {
					name := fmt.Sprintf("%d by %d, leaked %v", cert, who, w.Leaked)
					got := answeringAt(0, role, []byte{1}, cert).sees(t, name, w)
					leaked := slices.Contains(w.Leaked, cert)
					sameCode(t, name, got.Code, when(who != cert+1 && !leaked, impl.ErrSign))
					if got.Code != impl.OK {
						continue
					}
					heard := goes(t, got.World, hearingAt(0, 3-role, 0))
					isRight(t, name, heard, true, true)
					// Behind it, the key is taken as if it had never leaked.
					heard.Leaked = nil
					isRight(t, name+", not leaked any more", heard, who == cert+1, true)
				}
			}
		}
	}
}

func TestP16LeakedIsSoOnce(t *testing.T) {
	w := goes(t, begunWorld(t), leakingOf(2))
	again := goes(t, w, leakingOf(2), leakingOf(2))
	sameWorld(t, "leaked again", impl.WorldResult{World: again}, impl.WorldResult{World: w})
	more := goes(t, w, leakingOf(1), leakingOf(2), leakingOf(1))
	if !slices.Equal(more.Leaked, []int64{2, 1}) {
		t.Errorf("leaked: %v", more.Leaked)
	}
}

func TestP16WhoAsksAndIsAnsweredByTheOwnerBelievesIt(t *testing.T) {
	for _, start := range []impl.World{begunWorld(t), livedWorld(t), goes(t, livedWorld(t), tickingBy(14), leakingOf(3))} {
		for _, end := range endsOfTwo() {
			link, role := end[0], end[1]
			_, other := endOfWorld(&start, link, 3-role)
			for _, c := range start.Certs {
				for i, context := range [][]byte{{100}, {200, 0}, someBytes(19)} {
					if c.Owner != other {
						continue
					}
					w := goes(t, start, tickingBy(int64(i)), askingAt(link, role, context), answeringAt(link, 3-role, context, c.Id))
					got := hearingAt(link, role, int64(len(w.Pool)-1)).sees(t, "the owner's", w)
					sameCode(t, fmt.Sprintf("%+v at %d", c, w.Now), got.Code, when(c.Until < w.Now, impl.ErrOld))
					if got.Code == impl.OK {
						x, _ := endOfWorld(&got.World, link, role)
						sameBool(t, "it is held", impl.HoldsNow(*x, c.Id, w.Now), true)
						isRight(t, "the owner's", got.World, true, true)
					}
				}
			}
		}
	}
}

// believedWorld has one that is believed (certificate 2, of 2, heard by 1), and
// the same context asked for elsewhere.
func believedWorld(t *testing.T) impl.World {
	t.Helper()
	w := allAsk(t, begunWorld(t), []byte{7})
	return goes(t, w, answeringAt(0, 2, []byte{7}, 2), hearingAt(0, 1, 0))
}

func TestP16AcceptRightOfOneChange(t *testing.T) {
	w := believedWorld(t)
	isRight(t, "as it is", w, true, true)
	rows := []struct {
		name           string
		change         func(w *impl.World)
		accepts, holds bool
	}{
		{"no signature", func(w *impl.World) { w.Signs = nil }, false, true},
		{"no signature, and its key leaked", func(w *impl.World) { w.Signs, w.Leaked = nil, []int64{2} }, true, true},
		{"no signature, and another key leaked", func(w *impl.World) { w.Signs, w.Leaked = nil, []int64{1, 3, 4} }, false, true},
		{"a signature by another one", func(w *impl.World) { w.Signs[0].By = 1 }, false, true},
		{"a signature by nobody", func(w *impl.World) { w.Signs[0].By = 0 }, false, true},
		{"a signature by another one, and its key leaked", func(w *impl.World) { w.Signs[0].By, w.Leaked = 1, []int64{1, 2} }, true, true},
		{"a signature of another certificate of the same owner", func(w *impl.World) { w.Signs[0].Cert = 4 }, false, true},
		{"a signature at another place", func(w *impl.World) { w.Signs = append(someSigns(7), w.Signs...) }, true, true},
		{"a signature by both", func(w *impl.World) {
			w.Signs = append([]impl.Sign{{Cert: 2, By: 5, Digest: w.Signs[0].Digest}}, w.Signs...)
		}, true, true},
		{"said by nobody", func(w *impl.World) { w.Pool, w.Events = nil, w.Events[1:] }, true, true},
		{"believed by nobody", func(w *impl.World) { w.Events = w.Events[:1] }, true, false},
		{"believed twice", func(w *impl.World) { w.Events = append(w.Events, w.Events[1]) }, false, true},
		{"believed twice, its key leaked", func(w *impl.World) { w.Events, w.Leaked = append(w.Events, w.Events[1]), []int64{2} }, false, true},
		{"believed twice, of two certificates that are leaked", func(w *impl.World) {
			w.Leaked = []int64{2, 4}
			w.Events = append(w.Events, w.Events[1])
			w.Events[2].Cert = 4
			w.Links[0].Client.Held = append(w.Links[0].Client.Held, impl.Held{Cert: 4, Until: 5})
		}, false, true},
		{"on another link", func(w *impl.World) { w.Events[1].Link = 1 }, false, false},
		{"of the other role", func(w *impl.World) { w.Events[1].Role = 1 }, false, false},
		{"of another context", func(w *impl.World) { w.Events[1].Context = []byte{8} }, false, true},
		{"of a longer context", func(w *impl.World) { w.Events[1].Context = []byte{7, 0} }, false, true},
		{"of another certificate", func(w *impl.World) { w.Events[1].Cert = 4 }, false, false},
		{"of a certificate that is not there", func(w *impl.World) { w.Events[1].Cert = 5 }, false, false},
		{"by another one", func(w *impl.World) { w.Events[1].By = 0 }, true, true},
		{"a create instead", func(w *impl.World) { w.Events[1].Kind = 1 }, true, false},
		{"two creates more", func(w *impl.World) { w.Events = append(w.Events, w.Events[0], w.Events[0]) }, true, true},
		{"its certificate is gone", func(w *impl.World) { w.Certs = slices.Delete(w.Certs, 1, 2) }, false, false},
		{"its certificate has another owner", func(w *impl.World) { w.Certs[1].Owner = 1 }, false, true},
		{"its certificate has another owner, who signed", func(w *impl.World) { w.Certs[1].Owner, w.Signs[0].By = 1, 1 }, false, true},
		{"its certificate counts longer", func(w *impl.World) { w.Certs[1].Until = 31 }, false, false},
		{"another exporter", func(w *impl.World) { w.Links[0].Client.Exporter[0] ^= 1; w.Links[0].Server.Exporter[0] ^= 1 }, false, true},
		{"a fault", func(w *impl.World) { w.Events[0].Link = 2 }, false, false},
		{"a fault of now", func(w *impl.World) { w.Now = -1 }, false, false},
		{"exporters that part", func(w *impl.World) { w.Links[1].Client.Exporter[31] ^= 1 }, false, false},
	}
	for _, r := range rows {
		isRight(t, r.name, changingWorld(w, r.change), r.accepts, r.holds)
	}
	for bit := range 256 {
		other := changingWorld(w, func(w *impl.World) { w.Signs[0].Digest = changed(w.Signs[0].Digest, bit) })
		isRight(t, fmt.Sprintf("a digest changed at bit %d", bit), other, false, true)
	}
}

func TestP16HeldRightOfOneChange(t *testing.T) {
	w := believedWorld(t)
	revoke := impl.Event{Kind: 3, Link: 0, Role: 2, Cert: 2, By: 1}
	put := func(e impl.Event, at int) func(w *impl.World) {
		return func(w *impl.World) { w.Events = slices.Insert(w.Events, at, e) }
	}
	drop := func(w *impl.World) { w.Links[0].Client.Held = nil }
	both := func(changes ...func(w *impl.World)) func(w *impl.World) {
		return func(w *impl.World) {
			for _, change := range changes {
				change(w)
			}
		}
	}
	again := func(w *impl.World) {
		w.Events = append(w.Events, impl.Event{Kind: 2, Link: 0, Role: 2, Context: []byte{9}, Cert: 2, By: 2})
	}
	rows := []struct {
		name   string
		change func(w *impl.World)
		holds  bool
	}{
		{"nothing held", drop, false},
		{"one more held", func(w *impl.World) {
			w.Links[0].Client.Held = append(w.Links[0].Client.Held, impl.Held{Cert: 3, Until: 9999})
		}, false},
		{"one more held, ahead", func(w *impl.World) {
			w.Links[0].Client.Held = append([]impl.Held{{Cert: 1, Until: 20}}, w.Links[0].Client.Held...)
		}, false},
		{"held until another time", func(w *impl.World) { w.Links[0].Client.Held[0].Until = 29 }, false},
		{"another one held", func(w *impl.World) { w.Links[0].Client.Held[0].Cert = 1 }, false},
		{"held by the other side too", func(w *impl.World) { w.Links[0].Server.Held = slices.Clone(w.Links[0].Client.Held) }, false},
		{"held by the other side alone", func(w *impl.World) { w.Links[0].Server.Held = slices.Clone(w.Links[0].Client.Held); drop(w) }, false},
		{"held on the other link too", func(w *impl.World) { w.Links[1].Client.Held = slices.Clone(w.Links[0].Client.Held) }, false},
		{"held by the other link's server", func(w *impl.World) { w.Links[1].Server.Held = []impl.Held{{Cert: 1, Until: 20}} }, false},
		{"revoked, and held", put(revoke, 2), false},
		{"revoked, and not held", both(put(revoke, 2), drop), true},
		{"revoked ahead of it", put(revoke, 1), true},
		{"revoked ahead of it, and not held", both(put(revoke, 1), drop), false},
		{"revoked, and shown again", both(put(revoke, 2), again), true},
		{"revoked, shown again, and not held", both(put(revoke, 2), again, drop), false},
		{"revoked, shown again, and revoked again", both(put(revoke, 2), again, put(revoke, 4)), false},
		{"revoked, shown again, revoked again, and not held", both(put(revoke, 2), again, put(revoke, 4), drop), true},
		{"shown twice, revoked once, and not held", both(again, put(revoke, 3), drop), true},
		{"another one is revoked", put(impl.Event{Kind: 3, Link: 0, Role: 2, Cert: 4}, 2), true},
		{"revoked on the other link", put(impl.Event{Kind: 3, Link: 1, Role: 2, Cert: 2}, 2), true},
		{"revoked by the other side", put(impl.Event{Kind: 3, Link: 0, Role: 1, Cert: 2}, 2), true},
		{"just until now", func(w *impl.World) { w.Now = 30 }, true},
		{"just until now, and not held", both(drop, func(w *impl.World) { w.Now = 30 }), false},
		{"over, and held", func(w *impl.World) { w.Now = 31 }, false},
		{"over, and not held", both(drop, func(w *impl.World) { w.Now = 31 }), true},
		{"over, and revoked", both(put(revoke, 2), drop, func(w *impl.World) { w.Now = 9000 }), true},
		{"no certificate, and held", func(w *impl.World) { w.Certs = w.Certs[:1] }, false},
		{"no certificate, and not held", both(drop, func(w *impl.World) { w.Certs = nil }), true},
		{"a certificate until 0 that is not there", both(drop, func(w *impl.World) { w.Certs = w.Certs[:1]; w.Links[0].Client.Held = []impl.Held{{Cert: 2}} }), false},
		{"signed by nobody", func(w *impl.World) { w.Signs = nil }, true},
	}
	for _, r := range rows {
		other := changingWorld(w, r.change)
		sameCode(t, r.name, impl.WorldFault(other), impl.OK)
		isRightByHand(t, r.name, other)
		sameBool(t, r.name, impl.HeldRight(other), r.holds)
	}
}

// nearEvents are all that differ from e in one thing.
func nearEvents(e impl.Event, visit func(other impl.Event)) {
	for _, n := range []int64{1, 2, 3} {
		a, b, c, d := e, e, e, e
		a.Kind, b.Link, c.Role, d.Cert = n, n-2, n, n
		visit(a)
		visit(b)
		visit(c)
		visit(d)
	}
	for _, context := range [][]byte{nil, {1}, {2}, {1, 0}, someBytes(20)} {
		other := e
		other.Context = context
		visit(other)
	}
	other := e
	other.By = 9 - e.By
	visit(other)
}

// nearEventWorlds have one event taken out, put in or changed, or two that
// change places.
func nearEventWorlds(w impl.World, visit func(other impl.World)) {
	see := func(change func(w *impl.World)) { visit(changingWorld(w, change)) }
	for i, e := range w.Events {
		see(func(w *impl.World) { w.Events = slices.Delete(w.Events, i, i+1) })
		see(func(w *impl.World) { w.Events = w.Events[:i] })
		see(func(w *impl.World) { w.Events = append(w.Events, e) })
		see(func(w *impl.World) { w.Events = slices.Insert(w.Events, 0, e) })
		see(func(w *impl.World) { w.Events[i], w.Events[0] = w.Events[0], w.Events[i] })
		nearEvents(e, func(other impl.Event) {
			see(func(w *impl.World) { w.Events[i] = other })
			see(func(w *impl.World) { w.Events = append(w.Events, other) })
		})
	}
}

func nearSignWorlds(w impl.World, visit func(other impl.World)) {
	see := func(change func(w *impl.World)) { visit(changingWorld(w, change)) }
	for i, s := range w.Signs {
		see(func(w *impl.World) { w.Signs = slices.Delete(w.Signs, i, i+1) })
		see(func(w *impl.World) { w.Signs = append(w.Signs, s); w.Signs[i].Digest = digestOf(1) })
		see(func(w *impl.World) { w.Signs[i].Digest[31] ^= 128 })
		for n := range int64(10) {
			see(func(w *impl.World) { w.Signs[i].By = n })
			see(func(w *impl.World) { w.Signs[i].Cert = n })
		}
	}
	for id := range int64(6) {
		see(func(w *impl.World) { w.Leaked = append(w.Leaked, id) })
		see(func(w *impl.World) { w.Leaked = []int64{id} })
	}
	see(func(w *impl.World) { w.Leaked = nil })
	see(func(w *impl.World) { w.Signs = nil })
}

func nearHeldWorlds(w impl.World, visit func(other impl.World)) {
	see := func(change func(w *impl.World)) { visit(changingWorld(w, change)) }
	for _, end := range endsOfTwo() {
		x, _ := endOfWorld(&w, end[0], end[1])
		put := func(list []impl.Held) {
			see(func(w *impl.World) { y, _ := endOfWorld(w, end[0], end[1]); y.Held = list })
		}
		for i := range x.Held {
			put(slices.Delete(slices.Clone(x.Held), i, i+1))
			later, other := slices.Clone(x.Held), slices.Clone(x.Held)
			later[i].Until++
			other[i].Cert++
			put(later)
			put(other)
		}
		for _, c := range w.Certs {
			put(heldWith(x.Held, c))
		}
		put(nil)
	}
	for i := range w.Certs {
		see(func(w *impl.World) { w.Certs = slices.Delete(w.Certs, i, i+1) })
		see(func(w *impl.World) { w.Certs[i].Until++ })
		see(func(w *impl.World) { w.Certs[i].Owner = 9 })
	}
	for _, now := range []int64{0, 5, 6, 20, 21, 30, 31, 9000} {
		see(func(w *impl.World) { w.Now = now })
	}
}

func TestP16NearWorlds(t *testing.T) {
	lived := livedWorld(t)
	count := map[[2]bool]int{}
	see := func(other impl.World) {
		isRightByHand(t, fmt.Sprintf("%+v", other), other)
		count[[2]bool{impl.AcceptRight(other), impl.HeldRight(other)}]++
	}
	for _, w := range []impl.World{lived, goes(t, lived, hearingAt(0, 1, 6), revokingAt(0, 1, 1)), goes(t, lived, tickingBy(14)), believedWorld(t)} {
		isRight(t, "as it is", w, true, true)
		nearEventWorlds(w, see)
		nearSignWorlds(w, see)
		nearHeldWorlds(w, see)
	}
	for _, answer := range [][2]bool{{true, true}, {true, false}, {false, true}, {false, false}} {
		if count[answer] < 20 {
			t.Errorf("%v is the answer of %d worlds alone", answer, count[answer])
		}
	}
}

func TestP16GoodWorldsMadeByHand(t *testing.T) {
	eachGoodWorld(t, func(name string, w impl.World) { isRightByHand(t, name, w) })
}

func isWithin(list []impl.Held, among []impl.Held) bool {
	return !slices.ContainsFunc(list, func(h impl.Held) bool { return !slices.Contains(among, h) })
}

func TestP16AsTimeGoesOnNobodyHoldsMore(t *testing.T) {
	worlds := goodWorlds(t)
	for _, w := range worlds {
		w.Now %= 8000
		for range 12 {
			for _, n := range []int64{0, 1, 37, 100} {
				got := tickingBy(n).sees(t, "a tick", w)
				sameCode(t, "a tick", got.Code, impl.OK)
				for i, l := range got.World.Links {
					if !isWithin(l.Client.Held, w.Links[i].Client.Held) || !isWithin(l.Server.Held, w.Links[i].Server.Held) {
						t.Errorf("more is held at %d: %+v, it was %+v", got.World.Now, l, w.Links[i])
					}
				}
				w = got.World
			}
		}
	}
}

// shown is what one session was shown, told by what was done alone.
type shown struct {
	asked    map[string]bool
	answered map[string]bool
	held     map[int64]int64
}

// saying is one piece of the pool, and who said it.
type saying struct {
	link, role int64
	context    []byte
	cert       impl.Cert
	by         int64
	leaked     bool
}

// walker goes through a world at random, and knows beside it what it has to be.
type walker struct {
	w      impl.World
	said   []saying
	ends   map[[2]int64]*shown
	events []impl.Event
	seed   uint32
}

func newWalker(t *testing.T, seed int) *walker {
	t.Helper()
	x := &walker{ends: map[[2]int64]*shown{}, seed: uint32(seed)}
	x.w = goes(t, impl.World{}, issuing(1, 12), issuing(2, 15), issuing(3, 20), linkingOf(clientPlain(), serverPlain(), 1, 2), linkingOf(serverPlain(), clientPlain(), 2, 3))
	for _, end := range endsOfTwo() {
		x.ends[end] = &shown{map[string]bool{}, map[string]bool{}, map[int64]int64{}}
	}
	return x
}

// next is less than n, and told by the seed alone.
func (x *walker) next(n int) int {
	x.seed = x.seed*1664525 + 1013904223
	return int(x.seed>>16) % n
}

func (x *walker) end() (int64, int64, *shown) {
	end := endsOfTwo()[x.next(4)]
	return end[0], end[1], x.ends[end]
}

func (x *walker) context() []byte {
	return []byte{byte(x.next(4))}
}

// does sees that the step tells that code, and what the world by hand is.
func (x *walker) does(t *testing.T, name string, s worldStep, code int64) {
	t.Helper()
	got := s.sees(t, name, x.w)
	sameCode(t, name+": "+s.name, got.Code, code)
	if got.Code == impl.OK {
		x.w = got.World
	} else {
		noWorld(t, name+": "+s.name, got, code)
	}
}

func (x *walker) ask(t *testing.T, name string) {
	t.Helper()
	link, role, end := x.end()
	context := x.context()
	x.does(t, name, askingAt(link, role, context), when(end.asked[string(context)], impl.ErrTaken))
	end.asked[string(context)] = true
}

func (x *walker) answer(t *testing.T, name string) {
	t.Helper()
	link, role, _ := x.end()
	context := x.context()
	other, _ := endOfWorld(&x.w, link, 3-role)
	if len(other.Asked) > 0 && x.next(4) > 0 {
		context = other.Asked[x.next(len(other.Asked))]
	}
	_, who := endOfWorld(&x.w, link, role)
	c := x.w.Certs[x.next(len(x.w.Certs))]
	for tries := x.next(6); c.Owner != who && tries > 0; tries-- {
		c = x.w.Certs[x.next(len(x.w.Certs))]
	}
	leaked := slices.Contains(x.w.Leaked, c.Id)
	code := firstCode(whenLimit(len(x.said) == 30 || len(x.events) == 60), when(c.Owner != who && !leaked, impl.ErrSign))
	x.does(t, name, answeringAt(link, role, context, c.Id), code)
	if code == impl.OK {
		x.said = append(x.said, saying{link, role, context, c, who, leaked})
		x.events = append(x.events, impl.Event{Kind: 1, Link: link, Role: role, Context: context, Cert: c.Id, By: who})
	}
}

func (x *walker) hear(t *testing.T, name string) {
	t.Helper()
	link, role, end := x.end()
	if len(x.said) == 0 {
		x.does(t, name, hearingAt(link, role, 0), impl.ErrRange)
		return
	}
	at := max(x.next(len(x.said)), x.next(len(x.said)))
	s := x.said[at]
	if x.next(4) > 0 {
		link, role, end = s.link, 3-s.role, x.ends[[2]int64{s.link, 3 - s.role}]
	}
	key := string(s.context)
	_, there := end.held[s.cert.Id]
	code := firstCode(
		whenLimit(len(x.events) == 60),
		when(s.cert.Until < x.w.Now, impl.ErrOld),
		when(s.link != link || s.role == role, impl.ErrSign),
		whenState(!end.asked[key] || end.answered[key]),
		whenLimit(len(end.held) == 6 && !there),
	)
	x.does(t, name, hearingAt(link, role, int64(at)), code)
	if code != impl.OK {
		return
	}
	// Who is believed has signed it as its owner, or by a key that is leaked.
	sameBool(t, name+": believed", s.by == s.cert.Owner || s.leaked, true)
	end.answered[key], end.held[s.cert.Id] = true, s.cert.Until
	_, other := endOfWorld(&x.w, link, 3-role)
	x.events = append(x.events, impl.Event{Kind: 2, Link: link, Role: 3 - role, Context: s.context, Cert: s.cert.Id, By: other})
}

func (x *walker) revoke(t *testing.T, name string) {
	t.Helper()
	link, role, end := x.end()
	for tries := 0; len(end.held) == 0 && tries < 3; tries++ {
		link, role, end = x.end()
	}
	cert := int64(1 + x.next(5))
	if len(end.held) > 0 && x.next(4) > 0 {
		cert = slices.Sorted(maps.Keys(end.held))[x.next(len(end.held))]
	}
	_, there := end.held[cert]
	code := firstCode(whenLimit(len(x.events) == 60), when(!there, impl.ErrNone))
	x.does(t, name, revokingAt(link, role, cert), code)
	if code == impl.OK {
		delete(end.held, cert)
		_, who := endOfWorld(&x.w, link, role)
		x.events = append(x.events, impl.Event{Kind: 3, Link: link, Role: 3 - role, Cert: cert, By: who})
	}
}

func (x *walker) tick(t *testing.T, name string) {
	t.Helper()
	x.does(t, name, tickingBy(int64(x.next(4))), impl.OK)
	for _, end := range x.ends {
		for cert, until := range end.held {
			if until < x.w.Now {
				delete(end.held, cert)
			}
		}
	}
}

func (x *walker) step(t *testing.T, name string) {
	t.Helper()
	switch x.next(16) {
	case 0:
		x.does(t, name, issuing(int64(1+x.next(3)), int64(x.next(40))), when(len(x.w.Certs) == 8, impl.ErrMany))
	case 1, 2, 3, 4:
		x.ask(t, name)
	case 5, 6, 7:
		x.answer(t, name)
	case 8, 9, 10, 11, 12:
		x.hear(t, name)
	case 13:
		x.revoke(t, name)
	case 14:
		cert := int64(1 + x.next(10))
		x.does(t, name, leakingOf(cert), when(cert > int64(len(x.w.Certs)), impl.ErrNone))
	case 15:
		x.tick(t, name)
	}
}

func (x *walker) agrees(t *testing.T, name string) {
	t.Helper()
	sameCode(t, name+": fault", impl.WorldFault(x.w), impl.OK)
	isRight(t, name, x.w, true, true)
	if !slices.EqualFunc(x.w.Events, x.events, alikeEvents) || len(x.w.Pool) != len(x.said) || len(x.w.Signs) != len(x.said) {
		t.Errorf("%s: %+v, want the events %+v", name, x.w, x.events)
	}
	for i, s := range x.said {
		y, _ := endOfWorld(&x.w, s.link, s.role)
		sameList(t, name+": said", impl.BytesResult{Bytes: x.w.Pool[i]}, impl.OK, making{y.Exporter, s.role, s.context, s.cert, int64(i)}.byHand(t).Bytes)
	}
	for end, told := range x.ends {
		y, _ := endOfWorld(&x.w, end[0], end[1])
		if len(y.Held) != len(told.held) || len(y.Used) != len(told.answered) || len(y.Asked)+len(y.Used) != len(told.asked) {
			t.Errorf("%s: %+v, want %+v", name, y, told)
		}
		for _, h := range y.Held {
			until, there := told.held[h.Cert]
			sameBool(t, name+": held", there && until == h.Until && until >= x.w.Now, true)
		}
	}
}

func TestP16WorldsOfFortySteps(t *testing.T) {
	believed, revoked, thefts := 0, 0, 0
	for run := range 150 {
		x := newWalker(t, run)
		for step := range 40 {
			name := fmt.Sprintf("run %d, step %d", run, step)
			x.step(t, name)
			x.agrees(t, name)
		}
		for _, e := range x.w.Events {
			believed += int(when(e.Kind == 2, 1))
			revoked += int(when(e.Kind == 3, 1))
		}
		for _, s := range x.said {
			thefts += int(when(s.by != s.cert.Owner, 1))
		}
	}
	if believed < 200 || revoked < 50 || thefts < 30 {
		t.Errorf("only %d are believed, %d revoked, %d stolen", believed, revoked, thefts)
	}
}

func TestP16WorldsUntilThereIsNoRoom(t *testing.T) {
	full := 0
	for run := range 6 {
		x := newWalker(t, 1000+run)
		for step := range 260 {
			x.step(t, fmt.Sprintf("run %d, step %d", run, step))
		}
		x.agrees(t, fmt.Sprintf("run %d", run))
		full += int(when(len(x.w.Pool) == 30, 1))
	}
	if full < 3 {
		t.Errorf("only %d came to have no room", full)
	}
}

func TestP16EventsComeInTheOrderOfTheSteps(t *testing.T) {
	// Forty that put an event, one behind the other: each is the last one.
	w := goes(t, begunWorld(t), leakingOf(1), leakingOf(2), leakingOf(3))
	for i := range 10 {
		end := endsOfTwo()[i%4]
		link, role, context := end[0], end[1], contextOf(i)
		w = goes(t, w, askingAt(link, role, context), answeringAt(link, 3-role, context, int64(1+i%3)))
		_, other := endOfWorld(&w, link, 3-role)
		lastEventIs(t, w, impl.Event{Kind: 1, Link: link, Role: 3 - role, Context: context, Cert: int64(1 + i%3), By: other}, 4*i+1)
		w = goes(t, w, hearingAt(link, role, int64(2*i)))
		lastEventIs(t, w, impl.Event{Kind: 2, Link: link, Role: 3 - role, Context: context, Cert: int64(1 + i%3), By: other}, 4*i+2)
		_, who := endOfWorld(&w, link, role)
		w = goes(t, w, revokingAt(link, role, int64(1+i%3)))
		lastEventIs(t, w, impl.Event{Kind: 3, Link: link, Role: 3 - role, Cert: int64(1 + i%3), By: who}, 4*i+3)
		w = goes(t, w, answeringAt(link, role, []byte{1}, 2))
		lastEventIs(t, w, impl.Event{Kind: 1, Link: link, Role: role, Context: []byte{1}, Cert: 2, By: who}, 4*i+4)
		isRight(t, "in order", w, true, true)
	}
	for i, data := range w.Pool {
		a := impl.ReadAuth(data).Auth
		sameInt(t, "its place", impl.IntResult{Value: a.Place}, impl.OK, int64(i))
	}
	if len(w.Events) != 40 || len(w.Pool) != 20 || len(w.Signs) != 20 {
		t.Errorf("%d events, %d in the pool, %d signatures", len(w.Events), len(w.Pool), len(w.Signs))
	}
}

func lastEventIs(t *testing.T, w impl.World, e impl.Event, count int) {
	t.Helper()
	if len(w.Events) != count || !alikeEvents(w.Events[count-1], e) {
		t.Errorf("%d events, the last one %+v; want %d, and %+v", len(w.Events), w.Events[len(w.Events)-1], count, e)
	}
}

func TestP16OverRevokedAndShownAgain(t *testing.T) {
	w := goes(t, begunWorld(t), askingAt(0, 1, []byte{1}), askingAt(0, 1, []byte{2}), askingAt(0, 1, []byte{3}),
		answeringAt(0, 2, []byte{1}, 4), answeringAt(0, 2, []byte{2}, 4), answeringAt(0, 2, []byte{3}, 4), hearingAt(0, 1, 0))
	isRight(t, "shown", w, true, true)
	w = goes(t, w, tickingBy(5))
	isRight(t, "just not over", w, true, true)
	revoked := goes(t, w, revokingAt(0, 1, 4))
	isRight(t, "revoked", revoked, true, true)
	refusesStep(t, "revoked again", revoked, revokingAt(0, 1, 4), impl.ErrNone)
	again := goes(t, revoked, hearingAt(0, 1, 2))
	isRight(t, "shown again", again, true, true)
	sameBool(t, "it is held", impl.HoldsNow(again.Links[0].Client, 4, 5), true)
	over := goes(t, again, tickingBy(1))
	isRight(t, "over", over, true, true)
	sameBool(t, "it is held no more", holdsCert(over.Links[0].Client.Held, 4), false)
	refusesStep(t, "over", over, hearingAt(0, 1, 1), impl.ErrOld)
	refusesStep(t, "over, and not held", over, revokingAt(0, 1, 4), impl.ErrNone)
	// One who put it back by hand holds too much, or too little.
	isRight(t, "put back", changingWorld(over, func(w *impl.World) { w.Links[0].Client.Held = []impl.Held{{Cert: 4, Until: 5}} }), true, false)
	isRight(t, "taken out", changingWorld(again, func(w *impl.World) { w.Links[0].Client.Held = nil }), true, false)
	isRight(t, "put back behind a revoke", changingWorld(revoked, func(w *impl.World) { w.Links[0].Client.Held = []impl.Held{{Cert: 4, Until: 5}} }), true, false)
}

func roomyEvents(list []impl.Event) []impl.Event {
	out := cloneEvents(list)
	for i := range out {
		out[i].Context = roomyFor(out[i].Context)
	}
	return append(out, impl.Event{Kind: 77}, impl.Event{Kind: 78})[:len(list)]
}

func staysEvents(list []impl.Event, was []impl.Event) bool {
	behind := []impl.Event{{Kind: 77}, {Kind: 78}}
	for i, e := range was {
		if !stays(list[i].Context, e.Context) {
			return false
		}
	}
	return slices.EqualFunc(list[:len(was)+2], slices.Concat(was, behind), alikeEvents)
}

func roomyLinks(list []impl.Link) []impl.Link {
	var out []impl.Link
	for _, l := range list {
		out = append(out, impl.Link{A: l.A, B: l.B, Client: roomySession(l.Client), Server: roomySession(l.Server)})
	}
	return append(out, impl.Link{A: 77}, impl.Link{A: 78})[:len(list)]
}

func staysLinks(list []impl.Link, was []impl.Link) bool {
	for i, l := range was {
		if !staysSession(list[i].Client, l.Client) || !staysSession(list[i].Server, l.Server) {
			return false
		}
	}
	return slices.EqualFunc(list[:len(was)+2], slices.Concat(was, []impl.Link{{A: 77}, {A: 78}}), alikeLinks)
}

func roomyWorld(w impl.World) impl.World {
	return impl.World{Now: w.Now, Certs: roomyCerts(w.Certs), Leaked: roomyState(w.Leaked), Signs: roomySigns(w.Signs),
		Links: roomyLinks(w.Links), Pool: roomyBlocks(w.Pool), Events: roomyEvents(w.Events)}
}

func staysWorld(w impl.World, was impl.World) bool {
	return alikeWorlds(w, was) && staysCerts(w.Certs, was.Certs) && staysNumbers(w.Leaked, was.Leaked) && staysSigns(w.Signs, was.Signs) &&
		staysLinks(w.Links, was.Links) && staysBlocks(w.Pool, was.Pool) && staysEvents(w.Events, was.Events)
}

// stepsOfAll are some of each kind, of which each world lets some be done.
func stepsOfAll() []worldStep {
	steps := []worldStep{issuing(1, 1), issuing(9, 9999), issuing(0, 0), linkingOf(clientPlain(), serverPlain(), 1, 2), linkingOf(impl.Side{}, serverPlain(), 1, 2),
		leakingOf(1), leakingOf(2), leakingOf(3), leakingOf(98), tickingBy(0), tickingBy(1), tickingBy(100), tickingBy(-1)}
	for _, end := range endsOfTwo() {
		link, role := end[0], end[1]
		steps = append(steps, askingAt(link, role, []byte{9}), askingAt(link, role, nil))
		for id := int64(1); id < 5; id++ {
			steps = append(steps, answeringAt(link, role, []byte{9, 9}, id))
		}
		for _, id := range []int64{1, 2, 3, 18, 34} {
			steps = append(steps, revokingAt(link, role, id))
		}
		for at := range int64(7) {
			steps = append(steps, hearingAt(link, role, at))
		}
	}
	return steps
}

func TestP1WorldArgumentsStay(t *testing.T) {
	worlds := goodWorlds(t)
	for _, x := range wrongWorlds() {
		worlds = append(worlds, x.w)
	}
	for i, was := range worlds {
		w := roomyWorld(was)
		impl.WorldFault(w)
		impl.AcceptRight(w)
		impl.HeldRight(w)
		for _, s := range stepsOfAll() {
			s.ask(w)
			if !staysWorld(w, was) {
				t.Fatalf("world %d is changed: %s", i, s.name)
			}
		}
		context, sides := roomyFor([]byte{9}), []impl.Side{roomySide(clientPlain()), roomySide(serverPlain())}
		impl.AskWorld(w, 0, 1, context)
		impl.AnswerWorld(w, 0, 1, context, 1)
		impl.LinkWorld(w, sides[0], sides[1], 1, 2)
		if !stays(context, []byte{9}) || !staysSide(sides[0], clientPlain()) || !staysSide(sides[1], serverPlain()) {
			t.Errorf("an argument is changed: world %d", i)
		}
	}
}

// span is where a list lies in memory, with all its room.
type span struct {
	name     string
	from, to uintptr
}

func spanOf[T any](name string, list []T) span {
	from := uintptr(unsafe.Pointer(unsafe.SliceData(list)))
	return span{name, from, from + uintptr(cap(list))*unsafe.Sizeof(*new(T))}
}

func spansOfLists(name string, list [][]byte) []span {
	spans := []span{spanOf(name, list)}
	for i, data := range list {
		spans = append(spans, spanOf(fmt.Sprintf("%s %d", name, i), data))
	}
	return spans
}

func spansOfSession(name string, x impl.Session) []span {
	return slices.Concat([]span{spanOf(name+" exporter", x.Exporter), spanOf(name+" held", x.Held)},
		spansOfLists(name+" asked", x.Asked), spansOfLists(name+" used", x.Used))
}

func spansOfWorld(name string, w impl.World) []span {
	spans := []span{spanOf(name+" certificates", w.Certs), spanOf(name+" leaked", w.Leaked), spanOf(name+" signatures", w.Signs),
		spanOf(name+" links", w.Links), spanOf(name+" events", w.Events)}
	for i, s := range w.Signs {
		spans = append(spans, spanOf(fmt.Sprintf("%s digest %d", name, i), s.Digest))
	}
	for i, l := range w.Links {
		spans = append(spans, spansOfSession(fmt.Sprintf("%s client %d", name, i), l.Client)...)
		spans = append(spans, spansOfSession(fmt.Sprintf("%s server %d", name, i), l.Server)...)
	}
	for i, e := range w.Events {
		spans = append(spans, spanOf(fmt.Sprintf("%s event %d", name, i), e.Context))
	}
	return append(spans, spansOfLists(name+" pool", w.Pool)...)
}

// lieApart sees that no two of them have any memory in common.
func lieApart(t *testing.T, name string, spans ...[]span) {
	t.Helper()
	all := slices.DeleteFunc(slices.Concat(spans...), func(s span) bool { return s.from == s.to })
	slices.SortFunc(all, func(a span, b span) int { return cmp.Compare(a.from, b.from) })
	for i := 1; i < len(all); i++ {
		if all[i].from < all[i-1].to {
			t.Errorf("%s: %s and %s share memory", name, all[i-1].name, all[i].name)
		}
	}
}

func TestP1WorldsAreNewMemory(t *testing.T) {
	done := 0
	for i, was := range goodWorlds(t) {
		for _, s := range stepsOfAll() {
			w := cloneWorld(was)
			first, second := s.ask(w), s.ask(w)
			name := fmt.Sprintf("world %d: %s", i, s.name)
			lieApart(t, name, spansOfWorld("argument", w), spansOfWorld("first", first.World), spansOfWorld("second", second.World))
			sameWorld(t, name, first, second)
			done += int(when(first.Code == impl.OK, 1))
		}
	}
	if done < 200 {
		t.Errorf("only %d steps are done", done)
	}
	// What is handed in beside the world is not shared either.
	w, context, client, server := begunWorld(t), someBytes(20), cloneSide(clientPlain()), cloneSide(serverPlain())
	given := []span{spanOf("context", context), spanOf("a random", client.Random), spanOf("the other random", server.Random)}
	lieApart(t, "AskWorld", given, spansOfWorld("asked", impl.AskWorld(w, 0, 1, context).World))
	lieApart(t, "AnswerWorld", given, spansOfWorld("answered", impl.AnswerWorld(w, 0, 1, context, 1).World))
	lieApart(t, "LinkWorld", given, spansOfWorld("linked", impl.LinkWorld(w, client, server, 1, 2).World))
}

func TestP1WorldsOfOneMemory(t *testing.T) {
	// All lists of the world, and the context, are pieces of a few.
	whole := slices.Repeat([]byte{9, 8, 7, 6}, 60)
	l := impl.Link{A: 1, B: 2, Client: impl.Session{Exporter: whole[:32], Role: 1}, Server: impl.Session{Exporter: whole[:32], Role: 2}}
	list := [][]byte{whole[:3], whole[1:4], whole[2:7], whole[3:9]}
	l.Client.Asked, l.Client.Used, l.Server.Asked, l.Server.Used = list[:2], list[2:3], list[:2], list[2:4]
	w := impl.World{Certs: issuedCerts(3), Signs: []impl.Sign{{Cert: 1, Digest: whole[:32]}}, Links: []impl.Link{l, l}, Pool: list,
		Events: []impl.Event{{Kind: 1, Role: 1, Context: whole[:1], Cert: 1}}}
	was := cloneWorld(w)
	for _, context := range [][]byte{whole[4:9], whole[:20]} {
		for _, s := range []worldStep{askingAt(1, 1, context), answeringAt(1, 2, context, 2), issuing(1, 1), leakingOf(1), tickingBy(1), linkingOf(clientPlain(), serverPlain(), 1, 2)} {
			got := s.sees(t, "of one memory", was)
			sameWorld(t, s.name, s.ask(w), got)
			lieApart(t, s.name, spansOfWorld("got", s.ask(w).World), []span{spanOf("whole", whole), spanOf("list", list)})
		}
	}
	if !alikeWorlds(w, was) || !bytes.Equal(whole, slices.Repeat([]byte{9, 8, 7, 6}, 60)) {
		t.Error("that memory is changed")
	}
}

func TestP1WorldsGoOnApart(t *testing.T) {
	// What is put behind one answer is not put behind another one.
	for i, w := range goodWorlds(t) {
		was := cloneWorld(w)
		type told struct {
			s   worldStep
			got impl.WorldResult
		}
		var all []told
		for _, s := range stepsOfAll() {
			all = append(all, told{s, s.ask(w)})
		}
		for _, x := range all {
			for _, s := range stepsOfAll()[:20] {
				s.ask(x.got.World)
			}
			sameWorld(t, fmt.Sprintf("world %d: %s", i, x.s.name), x.got, x.s.byHand(t, was))
		}
		if !alikeWorlds(w, was) {
			t.Errorf("world %d is changed", i)
		}
	}
}

func TestP1WorldsHangOnArgumentsAlone(t *testing.T) {
	lived := livedWorld(t)
	heard := hearWorldByHand(t, lived, 0, 1, 6)
	ask := func() {
		t.Helper()
		sameCode(t, "WorldFault", impl.WorldFault(lived), impl.OK)
		sameWorld(t, "HearWorld", impl.HearWorld(lived, 0, 1, 6), heard)
		sameBool(t, "AcceptRight", impl.AcceptRight(lived), true)
		sameBool(t, "HeldRight", impl.HeldRight(lived), true)
	}
	for range 20 {
		// What stands in a map is told in one order each time.
		ask()
	}
	// What is done, or refused, in between leaves nothing behind.
	for _, x := range wrongWorlds() {
		impl.HearWorld(x.w, 0, 1, 0)
		impl.AcceptRight(x.w)
		impl.HeldRight(x.w)
		ask()
	}
	for _, s := range stepsOfAll() {
		s.ask(lived)
		ask()
	}
}

func TestP1WorldsAtOnce(t *testing.T) {
	// What is asked at the same time, of the same world, is answered as if it were asked alone.
	w := livedWorld(t)
	type told struct {
		s     worldStep
		got   impl.WorldResult
		right bool
	}
	all := slices.Repeat(stepsOfAll(), 4)
	out := make(chan told, len(all))
	for _, s := range all {
		go func() {
			got := s.ask(w)
			out <- told{s, got, impl.AcceptRight(w) && impl.HeldRight(w)}
		}()
	}
	for range all {
		x := <-out
		sameWorld(t, "at once: "+x.s.name, x.got, x.s.byHand(t, w))
		sameBool(t, "at once", x.right, true)
	}
}

func TestP1WorldsOfNothing(t *testing.T) {
	// Nothing, be it nil or empty, is one value.
	empty := impl.World{Certs: []impl.Cert{}, Leaked: []int64{}, Signs: []impl.Sign{}, Links: []impl.Link{}, Pool: [][]byte{}, Events: []impl.Event{}}
	for _, w := range []impl.World{{}, empty} {
		isRight(t, "nothing", w, true, true)
		sameCode(t, "WorldFault", impl.WorldFault(w), impl.OK)
		sameWorld(t, "IssueWorld", impl.IssueWorld(w, 9, 0), impl.WorldResult{World: impl.World{Certs: []impl.Cert{{Id: 1, Owner: 9}}}})
		sameWorld(t, "TickWorld", impl.TickWorld(w, 100), impl.WorldResult{World: impl.World{Now: 100}})
		noWorld(t, "AskWorld", impl.AskWorld(w, 0, 0, nil), impl.ErrNone)
		noWorld(t, "AnswerWorld", impl.AnswerWorld(w, 0, 0, nil, 0), impl.ErrNone)
		noWorld(t, "HearWorld", impl.HearWorld(w, 0, 0, 0), impl.ErrNone)
		noWorld(t, "RevokeWorld", impl.RevokeWorld(w, 0, 0, 0), impl.ErrNone)
		noWorld(t, "LeakWorld", impl.LeakWorld(w, 0), impl.ErrNone)
		noWorld(t, "LinkWorld", impl.LinkWorld(w, impl.Side{}, impl.Side{}, 0, 0), impl.ErrRange)
		noWorld(t, "IssueWorld of nobody", impl.IssueWorld(w, 0, 0), impl.ErrRange)
	}
	// One of the pool that is nothing is heard as nothing that can be read.
	for _, none := range [][]byte{nil, {}} {
		w := impl.World{Links: linksOf(1), Pool: [][]byte{none}}
		noWorld(t, "HearWorld of nothing", impl.HearWorld(w, 0, 1, 0), impl.ErrText)
	}
}
