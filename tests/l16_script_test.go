package tests

import (
	"encoding/hex"
	"fmt"
	"math"
	"regexp"
	"slices"
	"strconv"
	"strings"
	"testing"
	"unsafe"

	"loop.example/g00375/impl"
)

// piecesByHand and the like are what the program's answers are held against.
func piecesByHand(line string) []string {
	var pieces []string
	from := 0
	for at := range len(line) + 1 {
		if at < len(line) && line[at] != 32 {
			continue
		}
		if at > from {
			pieces = append(pieces, line[from:at])
		}
		from = at + 1
	}
	return pieces
}

func linesByHand(text string) []string {
	var lines []string
	from := 0
	for at := range len(text) {
		if text[at] == 10 {
			lines = append(lines, text[from:at])
			from = at + 1
		}
	}
	if from < len(text) {
		lines = append(lines, text[from:])
	}
	return lines
}

func hasNoEventText(e impl.Event) bool {
	return e.Kind < 1 || e.Kind > 3 || e.Role < 1 || e.Role > 2 || e.Link < 0 || e.Link > 3 ||
		e.Cert < 1 || e.Cert > 99 || e.By < 0 || e.By > 9 || len(e.Context) > 20
}

func eventTextByHand(e impl.Event) string {
	kind := []string{"", "create", "accept", "revoke"}[e.Kind]
	text := fmt.Sprintf("%s %d %s %d %d", kind, e.Link, []string{"", "client", "server"}[e.Role], e.Cert, e.By)
	if len(e.Context) > 0 {
		text += fmt.Sprintf(" %x", e.Context)
	}
	return text
}

func heldTextByHand(list []impl.Held) string {
	text := ""
	for _, h := range list {
		text += fmt.Sprintf(" %d", h.Cert)
	}
	return text
}

func worldTextByHand(w impl.World) string {
	text := fmt.Sprintf("now %d %d %d\n", w.Now, len(w.Signs), len(w.Pool))
	for at, l := range w.Links {
		text += fmt.Sprintf("link %d %d %d client%s server%s\n", at, l.A, l.B, heldTextByHand(l.Client.Held), heldTextByHand(l.Server.Held))
	}
	for _, e := range w.Events {
		text += eventTextByHand(e) + "\n"
	}
	return text
}

func zeroSide(secret int64) impl.Side {
	return impl.Side{Secret: secret, Random: make([]byte, 8)}
}

// lineForm is what the words of a line may be, and the step of the world that
// such a line has to do.
type lineForm struct {
	form *regexp.Regexp
	step func(n []int64, x []byte) worldStep
}

func formOf(words string, step func(n []int64, x []byte) worldStep) lineForm {
	text := strings.NewReplacer("N", "(?P<N>0|[1-9][0-9]{0,3})", "X", "(?P<X>(?:[0-9a-f]{2}){1,20})").Replace(words)
	return lineForm{regexp.MustCompile(`\A` + text + `\z`), step}
}

var lineForms = []lineForm{
	formOf("issue N N", func(n []int64, x []byte) worldStep { return issuing(n[0], n[1]) }),
	formOf("link N N N N", func(n []int64, x []byte) worldStep { return linkingOf(zeroSide(n[2]), zeroSide(n[3]), n[0], n[1]) }),
	formOf("ask N N X", func(n []int64, x []byte) worldStep { return askingAt(n[0], n[1], x) }),
	formOf("answer N N X N", func(n []int64, x []byte) worldStep { return answeringAt(n[0], n[1], x, n[2]) }),
	formOf("hear N N N", func(n []int64, x []byte) worldStep { return hearingAt(n[0], n[1], n[2]) }),
	formOf("revoke N N N", func(n []int64, x []byte) worldStep { return revokingAt(n[0], n[1], n[2]) }),
	formOf("leak N", func(n []int64, x []byte) worldStep { return leakingOf(n[0]) }),
	formOf("tick N", func(n []int64, x []byte) worldStep { return tickingBy(n[0]) }),
}

var holdsForm = formOf("holds N N N", nil)

// read answers false, where the words are not of that form.
func (f lineForm) read(words string) ([]int64, []byte, bool) {
	found := f.form.FindStringSubmatch(words)
	var numbers []int64
	var context []byte
	for i, name := range f.form.SubexpNames() {
		if found == nil || i == 0 {
			continue
		}
		if name == "X" {
			context, _ = hex.DecodeString(found[i])
			continue
		}
		v, _ := strconv.ParseInt(found[i], 10, 64)
		numbers = append(numbers, v)
	}
	return numbers, context, found != nil
}

// stepOfWords is the step of the world that a line of these words has to do.
func stepOfWords(words string) (worldStep, bool) {
	for _, f := range lineForms {
		numbers, context, ok := f.read(words)
		if ok {
			return f.step(numbers, context), true
		}
	}
	return worldStep{}, false
}

func holdsLineByHand(w impl.World, link int64, role int64, cert int64) impl.ScriptResult {
	code := placeByHand(w, link, role)
	if code != impl.OK {
		return impl.ScriptResult{Code: code}
	}
	x, _ := endOfWorld(&w, link, role)
	return impl.ScriptResult{World: w, Said: map[bool]string{false: "no", true: "yes"}[holdsByHand(*x, cert, w.Now)]}
}

func lineByHand(t *testing.T, w impl.World, line string) impl.ScriptResult {
	t.Helper()
	code := firstCode(worldFaultByHand(w), when(strings.Contains(line, "\n"), impl.ErrText))
	if code != impl.OK {
		return impl.ScriptResult{Code: code}
	}
	words := strings.Join(piecesByHand(line), " ")
	if n, _, ok := holdsForm.read(words); ok {
		return holdsLineByHand(w, n[0], n[1], n[2])
	}
	step, ok := stepOfWords(words)
	switch {
	case words == "":
		return impl.ScriptResult{World: w}
	case words == "show":
		return impl.ScriptResult{World: w, Said: worldTextByHand(w)}
	case !ok:
		return impl.ScriptResult{Code: impl.ErrText}
	}
	got := step.byHand(t, w)
	if got.Code != impl.OK {
		return impl.ScriptResult{Code: got.Code}
	}
	return impl.ScriptResult{World: got.World, Said: "ok"}
}

func scriptByHand(t *testing.T, w impl.World, text string) impl.ScriptResult {
	t.Helper()
	lines := linesByHand(text)
	code := firstCode(worldFaultByHand(w), when(len(text) > 1200 || len(lines) > 40, impl.ErrMany))
	if code != impl.OK {
		return impl.ScriptResult{Code: code}
	}
	said := ""
	for _, line := range lines {
		got := lineByHand(t, w, line)
		if got.Code != impl.OK {
			said += fmt.Sprintf("! %d\n", got.Code)
			continue
		}
		w = got.World
		said += strings.TrimSuffix(got.Said, "\n") + strings.Repeat("\n", int(when(got.Said != "", 1)))
	}
	return impl.ScriptResult{World: w, Said: said}
}

func sameScript(t *testing.T, name string, got impl.ScriptResult, want impl.ScriptResult) {
	t.Helper()
	if got.Code != want.Code || got.Said != want.Said || !alikeWorlds(got.World, want.World) {
		t.Errorf("%s: %+v, want %+v", name, got, want)
	}
}

func noScript(t *testing.T, name string, got impl.ScriptResult, code int64) {
	t.Helper()
	sameScript(t, name, got, impl.ScriptResult{Code: code})
}

func seesLine(t *testing.T, name string, w impl.World, line string) impl.ScriptResult {
	t.Helper()
	got := impl.StepScript(w, line)
	sameScript(t, fmt.Sprintf("%s: %q", name, line), got, lineByHand(t, w, line))
	return got
}

func refusesLine(t *testing.T, name string, w impl.World, line string, code int64) {
	t.Helper()
	noScript(t, fmt.Sprintf("%s: %q", name, line), seesLine(t, name, w, line), code)
}

func seesScript(t *testing.T, name string, w impl.World, text string) impl.ScriptResult {
	t.Helper()
	got := impl.RunScript(w, text)
	sameScript(t, fmt.Sprintf("%s: %q", name, text), got, scriptByHand(t, w, text))
	return got
}

// says asks for what is said, letter by letter, and for no code.
func says(t *testing.T, w impl.World, text string, said string) impl.World {
	t.Helper()
	got := seesScript(t, "it says", w, text)
	if got.Code != impl.OK || got.Said != said {
		t.Errorf("%q: %d %q, want %q", text, got.Code, got.Said, said)
	}
	return got.World
}

func sameWords(t *testing.T, line string, want []string) {
	t.Helper()
	got := impl.WordsOf(line)
	if got.Code != impl.OK || !slices.Equal(got.Words, want) {
		t.Errorf("%q: %+v, want %q", line, got, want)
	}
}

func TestScriptConstants(t *testing.T) {
	if impl.MaxScript != 1200 || impl.MaxLines != 40 {
		t.Error(impl.MaxScript, impl.MaxLines)
	}
}

func TestScriptsKnown(t *testing.T) {
	// Exporters, digests and what is said on the link were reckoned by Python's hmac and hashlib.
	w := says(t, impl.World{}, "issue 1 20\nissue 2 30\nlink 1 2 5 9\nask 0 1 07\nanswer 0 2 07 2\nhear 0 1 0\nleak 1\nanswer 0 2 08 1\n", strings.Repeat("ok\n", 8))
	exporter := hexed(t, "917361cd9c62b760fcc8e6f6d4b6bd4e02e1956147f8cc7383115bbf14afb8bd")
	want := impl.World{
		Certs:  []impl.Cert{{Id: 1, Owner: 1, Until: 20}, {Id: 2, Owner: 2, Until: 30}},
		Leaked: []int64{1},
		Signs: []impl.Sign{
			{Cert: 2, By: 2, Digest: hexed(t, "d8a705f96811612bd65cc6a097a5061f8c494c359af480700649417282d79e94")},
			{Cert: 1, By: 2, Digest: hexed(t, "9aa6e4d5a52d5d407ca12dc75e987facaf79bc01171efc9c296476871fb85186")},
		},
		Links: []impl.Link{{
			A: 1, B: 2,
			Client: impl.Session{Exporter: exporter, Role: 1, Used: [][]byte{{7}}, Held: []impl.Held{{Cert: 2, Until: 30}}},
			Server: impl.Session{Exporter: exporter, Role: 2},
		}},
		Pool: [][]byte{
			hexed(t, "0107040202001e0100204964e49999d9b460024cfb2cf5b2abd8acaf113fcfa2dd5cca5bf289819df726"),
			hexed(t, "01080401010014010120a588cea9b8f2bd2c2de698bc88491876b5ed673d3c7bd8c4ac785640b26c5b27"),
		},
		Events: []impl.Event{
			{Kind: 1, Link: 0, Role: 2, Context: []byte{7}, Cert: 2, By: 2},
			{Kind: 2, Link: 0, Role: 2, Context: []byte{7}, Cert: 2, By: 2},
			{Kind: 1, Link: 0, Role: 2, Context: []byte{8}, Cert: 1, By: 2},
		},
	}
	sameScript(t, "a script", impl.ScriptResult{World: w}, impl.ScriptResult{World: want})
	text := "now 0 2 2\nlink 0 1 2 client 2 server\ncreate 0 server 2 2 07\naccept 0 server 2 2 07\ncreate 0 server 1 2 08\n"
	sameText(t, "its text", impl.WorldText(w), impl.OK, text)
	sameScript(t, "it is shown", impl.StepScript(w, "show"), impl.ScriptResult{World: want, Said: text})
}

func TestScriptsSayInTheirOrder(t *testing.T) {
	says(t, impl.World{}, "", "")
	says(t, impl.World{}, "show", "now 0 0 0\n")
	says(t, impl.World{}, "show\n", "now 0 0 0\n")
	says(t, impl.World{}, "\n\n  \nshow\n \n", "now 0 0 0\n")
	says(t, impl.World{}, "tick 1\nshow\ntick 99\nshow\ntick 101\nshow", "ok\nnow 1 0 0\nok\nnow 100 0 0\n! 3\nnow 100 0 0\n")
	w := says(t, impl.World{}, "issue 2 30\nlink 1 2 5 9\nlink 2 3 9 5\nask 0 1 0a0b\nask 1 2 ff\nanswer 0 2 0a0b 1\nanswer 1 1 ff 1\nhear 0 1 0\nhear 1 2 1",
		strings.Repeat("ok\n", 9))
	says(t, w, "holds 0 1 1\nholds 0 2 1\nholds 1 1 1\nholds 1 2 1\nholds 1 2 2", "yes\nno\nno\nyes\nno\n")
	says(t, w, "show\nrevoke 1 2 1\nshow\ntick 30\nshow\ntick 1\nshow",
		"now 0 2 2\nlink 0 1 2 client 1 server\nlink 1 2 3 client server 1\ncreate 0 server 1 2 0a0b\ncreate 1 client 1 2 ff\naccept 0 server 1 2 0a0b\naccept 1 client 1 2 ff\n"+
			"ok\n"+
			"now 0 2 2\nlink 0 1 2 client 1 server\nlink 1 2 3 client server\ncreate 0 server 1 2 0a0b\ncreate 1 client 1 2 ff\naccept 0 server 1 2 0a0b\naccept 1 client 1 2 ff\nrevoke 1 client 1 3\n"+
			"ok\n"+
			"now 30 2 2\nlink 0 1 2 client 1 server\nlink 1 2 3 client server\ncreate 0 server 1 2 0a0b\ncreate 1 client 1 2 ff\naccept 0 server 1 2 0a0b\naccept 1 client 1 2 ff\nrevoke 1 client 1 3\n"+
			"ok\n"+
			"now 31 2 2\nlink 0 1 2 client server\nlink 1 2 3 client server\ncreate 0 server 1 2 0a0b\ncreate 1 client 1 2 ff\naccept 0 server 1 2 0a0b\naccept 1 client 1 2 ff\nrevoke 1 client 1 3\n")
}

func TestWordsOfKnown(t *testing.T) {
	for _, line := range []string{"", " ", "  ", strings.Repeat(" ", 2000)} {
		sameWords(t, line, nil)
	}
	for _, line := range []string{"a b", " a b", "a b ", "a  b", "   a    b     ", "a" + strings.Repeat(" ", 2000) + "b"} {
		sameWords(t, line, []string{"a", "b"})
	}
	sameWords(t, "ab c", []string{"ab", "c"})
	sameWords(t, "b a b", []string{"b", "a", "b"})
	sameWords(t, "a\tb", []string{"a\tb"})
	sameWords(t, "a\nb \n \r", []string{"a\nb", "\n", "\r"})
	sameWords(t, "\xa0 \xa0\xa0", []string{"\xa0", "\xa0\xa0"})
	sameWords(t, "a\u00a0b \u3000", []string{"a\u00a0b", "\u3000"})
	sameWords(t, "\x00 \xff\xfe é", []string{"\x00", "\xff\xfe", "é"})
	sameWords(t, "\v\f\x1c\x85", []string{"\v\f\x1c\x85"})
	long := strings.Repeat("x", 5000)
	sameWords(t, long+" "+long+"y", []string{long, long + "y"})
	sameWords(t, strings.Repeat(" z", 3000), slices.Repeat([]string{"z"}, 3000))
}

func TestWordsOfAllLines(t *testing.T) {
	visitAll([]byte{32, 'a', '0', 0, 9, 10, 13, 160, 255}, 4, func(data []byte) {
		sameWords(t, string(data), piecesByHand(string(data)))
	})
	visitAll([]byte{32, 'b'}, 10, func(data []byte) {
		sameWords(t, string(data), piecesByHand(string(data)))
	})
	for b := range 256 {
		word := string([]byte{'c', byte(b), 'd'})
		if b == 32 {
			sameWords(t, word, []string{"c", "d"})
			continue
		}
		sameWords(t, " "+word+"  "+word, []string{word, word})
	}
}

func contextsOfEvents() [][]byte {
	return [][]byte{nil, {}, {0}, {255}, {7, 160}, someBytes(19), someBytes(20), someBytes(21), someBytes(22), someBytes(600), someBytes(601), make([]byte, 65556)}
}

func TestEventTextKnown(t *testing.T) {
	rows := []struct {
		e    impl.Event
		text string
	}{
		{impl.Event{Kind: 3, Role: 1, Cert: 3, By: 4}, "revoke 0 client 3 4"},
		{impl.Event{Kind: 1, Link: 3, Role: 2, Context: []byte{0}, Cert: 99, By: 0}, "create 3 server 99 0 00"},
		{impl.Event{Kind: 2, Link: 2, Role: 1, Context: []byte{171, 9}, Cert: 1, By: 9}, "accept 2 client 1 9 ab09"},
		{impl.Event{Kind: 2, Link: 1, Role: 2, Cert: 10, By: 5}, "accept 1 server 10 5"},
		{impl.Event{Kind: 3, Link: 0, Role: 2, Context: []byte("ab"), Cert: 7, By: 1}, "revoke 0 server 7 1 6162"},
	}
	for _, r := range rows {
		sameText(t, r.text, impl.EventText(r.e), impl.OK, r.text)
	}
}

// eachEvent has all edges, and all of them at once.
func eachEvent(visit func(e impl.Event)) {
	far := []int64{math.MinInt64, math.MinInt64 + 1, -1, math.MaxInt64 - 1, math.MaxInt64}
	with := func(list ...int64) []int64 { return slices.Concat(far, list) }
	for _, kind := range with(0, 1, 2, 3, 4, 257) {
		for _, link := range with(0, 1, 2, 3, 4, 256) {
			for _, role := range with(0, 1, 2, 3, 258) {
				for _, cert := range with(0, 1, 9, 10, 99, 100, 257) {
					for _, by := range with(0, 1, 9, 10, 256) {
						visit(impl.Event{Kind: kind, Link: link, Role: role, Context: []byte{7}, Cert: cert, By: by})
					}
				}
			}
		}
	}
	for _, context := range contextsOfEvents() {
		for kind := range int64(5) {
			for link := int64(-1); link < 5; link++ {
				for role := range int64(4) {
					visit(impl.Event{Kind: kind, Link: link, Role: role, Context: context, Cert: 1 + 14*link, By: 2 * kind})
				}
			}
		}
	}
}

func TestEventText(t *testing.T) {
	eachEvent(func(e impl.Event) {
		if hasNoEventText(e) {
			sameText(t, fmt.Sprintf("%+v", e), impl.EventText(e), impl.ErrRange, "")
			return
		}
		sameText(t, fmt.Sprintf("%+v", e), impl.EventText(e), impl.OK, eventTextByHand(e))
	})
	sameText(t, "no event", impl.EventText(impl.Event{}), impl.ErrRange, "")
}

func TestWorldText(t *testing.T) {
	for _, x := range wrongWorlds() {
		sameText(t, x.name, impl.WorldText(x.w), x.code, "")
	}
	eachGoodWorld(t, func(name string, w impl.World) {
		sameText(t, name, impl.WorldText(w), impl.OK, worldTextByHand(w))
	})
	for links := range 5 {
		w := impl.World{Links: linksOf(links)}
		text := []string{"now 0 0 0\n", "link 0 1 9 client server\n", "link 1 2 8 client server\n", "link 2 3 7 client server\n", "link 3 4 6 client server\n"}
		sameText(t, fmt.Sprintf("%d links", links), impl.WorldText(w), impl.OK, strings.Join(text[:links+1], ""))
	}
}

func TestWorldTextKnown(t *testing.T) {
	w := impl.World{Now: 9000, Signs: someSigns(40), Pool: poolOf(30), Links: linksOf(2), Leaked: []int64{77}, Certs: someCerts(3)}
	w.Links[0].Client.Held = []impl.Held{{Cert: 1, Until: 5}, {Cert: 12, Until: 9999}, {Cert: 99}}
	w.Links[1].Client.Held = []impl.Held{{Cert: 8, Until: 5}}
	w.Links[1].Server.Held = []impl.Held{{Cert: 3, Until: 1}, {Cert: 4, Until: 2}}
	w.Links[1].Server.Asked = [][]byte{{1}, {2}}
	w.Links[1].Server.Used = [][]byte{{3}}
	w.Events = []impl.Event{
		{Kind: 3, Link: 1, Role: 1, Cert: 50, By: 0},
		{Kind: 1, Link: 0, Role: 2, Context: []byte{0, 1}, Cert: 1, By: 9},
		{Kind: 2, Link: 1, Role: 1, Context: []byte{255}, Cert: 99, By: 3},
	}
	sameText(t, "a world", impl.WorldText(w), impl.OK, "now 9000 40 30\nlink 0 1 9 client 1 12 99 server\nlink 1 2 8 client 8 server 3 4\nrevoke 1 client 50 0\ncreate 0 server 1 9 0001\naccept 1 client 99 3 ff\n")
}

// rowsOf are all lines with one word of each part, one behind the other.
func rowsOf(parts ...[]string) []string {
	rows := []string{""}
	for _, part := range parts {
		var longer []string
		for _, row := range rows {
			for _, word := range part {
				longer = append(longer, strings.TrimPrefix(row+" "+word, " "))
			}
		}
		rows = longer
	}
	return rows
}

// linesOfEdges are lines of each form with the bounds of what they may do.
func linesOfEdges() []string {
	list := strings.Fields
	contexts := []string{"01", "04", "00ff", hex.EncodeToString(someBytes(20)), hex.EncodeToString(contextOf(100)), hex.EncodeToString(contextOf(200))}
	links, roles, certs := list("0 1 3 4 9999"), list("0 1 2 3"), list("0 1 2 4 9")
	return slices.Concat(
		rowsOf(list("issue"), list("0 1 9 10 9999"), list("0 1 20 9999")),
		rowsOf(list("link"), list("0 1 9 10"), list("1 9 10"), list("0 5 9999"), list("0 9")),
		rowsOf(list("ask"), links, roles, contexts),
		rowsOf(list("answer"), links, roles, contexts, certs),
		rowsOf(list("hear"), links, roles, list("0 1 2 3 4 5 6 7 28 29 30")),
		rowsOf(list("revoke"), links, roles, list("0 1 2 3 4 18 99 100")),
		rowsOf(list("holds"), links, roles, list("0 1 2 3 4 18 99 100")),
		rowsOf(list("leak"), list("0 1 2 3 9 99 100")),
		rowsOf(list("tick"), list("0 1 6 99 100 101 9999")),
		[]string{"show", "", "   "},
	)
}

func TestStepScriptDoesTheStepsOfTheWorld(t *testing.T) {
	done := map[string]int{}
	eachGoodWorld(t, func(name string, w impl.World) {
		for _, line := range linesOfEdges() {
			got := seesLine(t, name, w, line)
			if got.Code == impl.OK {
				done[strings.Join(piecesByHand(line)[:min(1, len(piecesByHand(line)))], "")]++
			}
		}
	})
	for _, name := range []string{"issue", "link", "ask", "answer", "hear", "revoke", "holds", "leak", "tick", "show", ""} {
		if done[name] < 5 {
			t.Errorf("%q is done %d times", name, done[name])
		}
	}
}

// goodLines are lines of each form that can be done in the world that lived.
func goodLines() []string {
	return []string{"issue 1 20", "link 3 2 5 9", "ask 0 1 07ff", "answer 0 2 07ff 2", "hear 0 1 6", "revoke 0 1 2", "leak 2", "tick 1", "holds 0 1 2", "show"}
}

func TestStepScriptNumbersAreOfOneToFourDigits(t *testing.T) {
	for v := range int64(10000) {
		name := fmt.Sprintf("issue 1 %d", v)
		sameScript(t, name, impl.StepScript(impl.World{}, name), impl.ScriptResult{Said: "ok", World: impl.World{Certs: []impl.Cert{{Id: 1, Owner: 1, Until: v}}}})
		text := fmt.Sprintf("0%d", v)
		for range 4 {
			noScript(t, text, impl.StepScript(impl.World{}, "issue 1 "+text), impl.ErrText)
			text = "0" + text
		}
		noScript(t, "a digit more", impl.StepScript(impl.World{}, fmt.Sprintf("issue 1 1%04d", v)), impl.ErrText)
		noScript(t, "a sign", impl.StepScript(impl.World{}, fmt.Sprintf("issue 1 -%d", v)), impl.ErrText)
	}
}

func wrongNumbers() []string {
	return []string{"00", "01", "007", "0000", "0001", "00000", "10000", "12345", "99999", "-1", "-0", "+1", "+", "-", "1.", "1.0", ".1", "1e1", "0x1", "1_0", "1,",
		"a", "1a", "a1", "f", "07", "ff", "１", "٣", "\"1\"", "1\t", "\t1", "1\r", "1\x00", "\xa01", "1\xa0", "1\u00a0", "1/", "1:", "/", ":",
		"4294967297", "18446744073709551617", "9223372036854775808", strings.Repeat("9", 2000), strings.Repeat("0", 2000) + "1"}
}

func wrongContexts() []string {
	return []string{"0", "7", "f", "007", "0x07", "0X07", "x07", "g0", "0g", "AB", "aB", "Ab", "07FF", "-7", "-07", "+7", "07,", "07\t", "\t07", "07\r", "0\x007", "\xa007",
		"07\xa0", "07\u00a0", "０７", "٠٧", "0/", ":0", "`0", "@0", "0G", hex.EncodeToString(someBytes(20)) + "0", hex.EncodeToString(someBytes(21)), hex.EncodeToString(someBytes(22)),
		strings.ToUpper(hex.EncodeToString(someBytes(20))), strings.Repeat("00", 21), strings.Repeat("07", 600), strings.Repeat("07", 601), strings.Repeat("0", 5000)}
}

func TestStepScriptOfWordsThatCannotBeRead(t *testing.T) {
	w := livedWorld(t)
	for _, line := range goodLines() {
		sameCode(t, line, seesLine(t, "as it is", w, line).Code, impl.OK)
		words := strings.Fields(line)
		for at := 1; at < len(words); at++ {
			wrong := wrongNumbers()
			if at == 3 && (words[0] == "ask" || words[0] == "answer") {
				wrong = wrongContexts()
			}
			for _, word := range wrong {
				other := slices.Clone(words)
				other[at] = word
				refusesLine(t, "a wrong word", w, strings.Join(other, " "), impl.ErrText)
				// It is told whatever else is wrong with it, or behind it.
				other[1+at%(len(words)-1)] = "00"
				refusesLine(t, "two wrong words", w, strings.Join(other, " "), impl.ErrText)
				refusesLine(t, "a world of nothing", impl.World{}, strings.Join(other, " "), impl.ErrText)
			}
		}
	}
}

func TestStepScriptOfAWordTooFewOrTooMany(t *testing.T) {
	w := livedWorld(t)
	for _, line := range goodLines() {
		words := strings.Fields(line)
		for at := range words {
			if len(words) > 1 {
				refusesLine(t, "a word too few", w, strings.Join(slices.Delete(slices.Clone(words), at, at+1), " "), impl.ErrText)
			}
			for _, more := range []string{"0", "1", "2", "07", "show", "tick", "x", "\t", "#"} {
				refusesLine(t, "a word too many", w, strings.Join(slices.Insert(slices.Clone(words), at, more), " "), impl.ErrText)
				refusesLine(t, "a word too many", w, strings.Join(append(slices.Clone(words), more), " "), impl.ErrText)
			}
			refusesLine(t, "the first words", w, strings.Join(words[:at], " ")+" .", impl.ErrText)
		}
		refusesLine(t, "twice", w, line+" "+line, impl.ErrText)
	}
}

func TestStepScriptOfOtherCommands(t *testing.T) {
	w := livedWorld(t)
	for _, line := range goodLines() {
		name, behind, _ := strings.Cut(line, " ")
		for _, other := range []string{strings.ToUpper(name), strings.ToUpper(name[:1]) + name[1:], name + "s", name[:len(name)-1], name[1:], "x" + name, name + "\t", "\t" + name,
			name + "\r", name + "\x00", name + ":", "\xa0" + name, name + "\u00a0", "\ufeff" + name, name + name, name + "1"} {
			refusesLine(t, "another command", w, other+" "+behind, impl.ErrText)
		}
		for _, between := range []string{"\t", "\r", "\v", "\f", "\x00", "\x85", "\xa0", "\u00a0", "\u3000", ",", "_"} {
			refusesLine(t, "a blank that is none", w, strings.ReplaceAll(line, " ", between)+between, impl.ErrText)
			refusesLine(t, "a blank that is none", w, line+" "+between, impl.ErrText)
			refusesLine(t, "a blank that is none", w, between+line, impl.ErrText)
		}
	}
	for _, line := range []string{"wink", "ok", "yes", "no", "!", "! 5", "0", "1 2", "now 7 7 7", "link 0 1 2 client 2 server", "create 0 server 2 2 07", "accept 0 1 2", "help", "#", "\t", "\r", "é", "\xff",
		"tock 1", "say 0 2 07 2", "nothing", "unknown 1 2"} {
		refusesLine(t, "no command", w, line, impl.ErrText)
		refusesLine(t, "no command", impl.World{}, line, impl.ErrText)
	}
}

func TestStepScriptOfBlanks(t *testing.T) {
	w := livedWorld(t)
	for _, line := range goodLines() {
		want := seesLine(t, "as it is", w, line)
		for _, other := range []string{" " + line, line + " ", "   " + line + "    ", strings.ReplaceAll(line, " ", "  "), strings.ReplaceAll("   "+line+" ", " ", strings.Repeat(" ", 400))} {
			sameScript(t, fmt.Sprintf("%q", other), seesLine(t, "with blanks", w, other), want)
		}
	}
	for n := range 50 {
		line := strings.Repeat(" ", n)
		sameScript(t, fmt.Sprintf("%d blanks", n), seesLine(t, "blanks", w, line), impl.ScriptResult{World: w})
	}
	// A line alone may be longer than a script.
	sameScript(t, "a long line", seesLine(t, "blanks", w, "tick"+strings.Repeat(" ", 3000)+"0"), impl.ScriptResult{World: w, Said: "ok"})
}

func TestStepScriptOfALineFeed(t *testing.T) {
	w := livedWorld(t)
	for _, line := range append(goodLines(), "", "  ", "wink") {
		for at := range len(line) + 1 {
			refusesLine(t, "a line feed", w, line[:at]+"\n"+line[at:], impl.ErrText)
			refusesLine(t, "a line feed", impl.World{}, line[:at]+"\n"+line[at:], impl.ErrText)
		}
		refusesLine(t, "two lines", w, line+"\n"+line+"\n", impl.ErrText)
	}
}

func TestStepScriptCodesInOrder(t *testing.T) {
	lines := append(goodLines(), "", "  ", "\n", "show\n", "wink", "show 1", "tick 101", "tick -1", "ask 0 1 zz", "ask 9 9 07", "holds 9 9 9", "holds 9 9 00", "link 0 0 0 0", "link 0 0 0 00")
	for _, x := range wrongWorlds() {
		for _, line := range lines {
			refusesLine(t, x.name, x.w, line, x.code)
		}
	}
	// Each row of a command has one wrong thing less than the one ahead.
	full, lived := fullWorld(4), livedWorld(t)
	heldFull := changingWorld(full, func(w *impl.World) { w.Links[3].Client.Held[0].Until = 9000 })
	rows := []struct {
		line string
		w    impl.World
		code int64
	}{
		{"issue 0 00", full, impl.ErrText},
		{"issue 0 5", full, impl.ErrRange},
		{"issue 1 5", full, impl.ErrMany},
		{"issue 1 5", impl.World{Certs: []impl.Cert{{Id: 2, Owner: 1}}}, impl.ErrTaken},
		{"link 10 1 0 x", full, impl.ErrText},
		{"link 10 1 0 0", full, impl.ErrRange},
		{"link 1 0 0 0", full, impl.ErrRange},
		{"link 1 9 0 0", full, impl.ErrLimit},
		{"link 1 9 0 5", lived, impl.ErrRange},
		{"link 1 9 5 0", lived, impl.ErrRange},
		{"link 1 9 5 5", lived, impl.OK},
		{"ask 4 0 0", full, impl.ErrText},
		{"ask 4 0 07", full, impl.ErrNone},
		{"ask 3 0 07", full, impl.ErrRange},
		{"ask 3 1 " + hex.EncodeToString(contextOf(100)), full, impl.ErrTaken},
		{"ask 3 1 07", full, impl.ErrLimit},
		{"ask 3 1 " + hex.EncodeToString(someBytes(21)), full, impl.ErrText},
		{"answer 4 3 07 00", full, impl.ErrText},
		{"answer 4 3 07 0", full, impl.ErrNone},
		{"answer 3 3 07 0", full, impl.ErrRange},
		{"answer 3 2 07 0", full, impl.ErrLimit},
		{"answer 0 2 " + strings.Repeat("00", 21) + " 0", lived, impl.ErrText},
		{"answer 0 2 07 0", lived, impl.ErrNone},
		{"answer 0 2 07 3", lived, impl.ErrSign},
		{"answer 0 2 07 2", lived, impl.OK},
		{"hear 4 3 07", full, impl.ErrText},
		{"hear 4 3 30", full, impl.ErrNone},
		{"hear 3 3 30", full, impl.ErrRange},
		{"hear 3 1 30", full, impl.ErrLimit},
		{"hear 0 1 7", lived, impl.ErrRange},
		{"hear 0 1 1", lived, impl.ErrOld},
		{"hear 0 1 3", lived, impl.ErrSign},
		{"hear 0 1 0", lived, impl.ErrState},
		{"hear 0 1 6", lived, impl.OK},
		{"revoke 4 0 10000", full, impl.ErrText},
		{"revoke 4 0 0", full, impl.ErrNone},
		{"revoke 3 0 0", full, impl.ErrRange},
		{"revoke 3 1 0", full, impl.ErrLimit},
		{"revoke 0 1 4", lived, impl.ErrNone},
		{"revoke 0 1 2", lived, impl.OK},
		// Of these a revoke asks the first ones alone: that no event has room is not asked.
		{"holds 4 0 x", full, impl.ErrText},
		{"holds 4 0 0", full, impl.ErrNone},
		{"holds 3 0 0", full, impl.ErrRange},
		{"holds 3 3 0", full, impl.ErrRange},
		{"holds 3 1 0", full, impl.OK},
		{"holds 3 1 9999", heldFull, impl.OK},
		{"leak 9 9", full, impl.ErrText},
		{"leak 9", full, impl.ErrNone},
		{"leak 2", full, impl.ErrMany},
		{"leak 1", full, impl.OK},
		{"tick 0101", full, impl.ErrText},
		{"tick 101", full, impl.ErrRange},
		{"tick 1", full, impl.ErrRange},
		{"tick 0", full, impl.OK},
	}
	for i, r := range rows {
		name := fmt.Sprintf("row %d", i)
		sameCode(t, name+": "+r.line, seesLine(t, name, r.w, r.line).Code, r.code)
	}
}

func TestStepScriptHolds(t *testing.T) {
	// Held until just below Now, until Now, and above it: a world may be handed in as none came to be.
	for now := int64(48); now < 53; now++ {
		w := impl.World{Now: now, Links: linksOf(4), Events: eventsOf(60, 4)}
		for i := range w.Links {
			w.Links[i].Client.Held = []impl.Held{{Cert: 1, Until: 49}, {Cert: 2, Until: 50}, {Cert: 3, Until: 51}}
			w.Links[i].Server.Held = []impl.Held{{Cert: int64(10 + i), Until: 50}, {Cert: 99, Until: 9999}}
		}
		for link := range int64(4) {
			for cert := range int64(101) {
				client := cert > 0 && cert < 4 && 48+cert >= now
				server := (cert == 10+link && now <= 50) || cert == 99
				for role, held := range map[int64]bool{1: client, 2: server} {
					line := fmt.Sprintf("holds %d %d %d", link, role, cert)
					said := map[bool]string{true: "yes", false: "no"}[held]
					sameScript(t, fmt.Sprintf("%s at %d", line, now), seesLine(t, "holds", w, line), impl.ScriptResult{World: w, Said: said})
				}
			}
		}
	}
}

func TestStepScriptLinksOfZeros(t *testing.T) {
	for secret := range int64(60) {
		w := goes(t, impl.World{}, issuing(1, 20))
		line := fmt.Sprintf("link 3 4 %d 9", secret)
		pair := impl.PairOf(impl.Side{Secret: secret, Random: make([]byte, 8)}, impl.Side{Secret: 9, Random: make([]byte, 8)})
		got := seesLine(t, "of zeros", w, line)
		sameCode(t, line, got.Code, pair.Code)
		if pair.Code != impl.OK {
			continue
		}
		l := got.World.Links[0]
		sameList(t, line, impl.BytesResult{Bytes: l.Client.Exporter}, impl.OK, pair.Client.Secrets.Exporter)
		if l.A != 3 || l.B != 4 {
			t.Errorf("%s: %+v", line, l)
		}
	}
}

func TestRunScriptOfBytes(t *testing.T) {
	w := begunWorld(t)
	for _, text := range []string{strings.Repeat(" ", 1300), "show" + strings.Repeat(" ", 1300), strings.Repeat("tick 1"+strings.Repeat(" ", 33)+"\n", 40), strings.Repeat(strings.Repeat("é", 20)+"\n", 40),
		strings.Repeat("x", 1300), strings.Repeat("€", 434), strings.Repeat("\x00", 1300), strings.Repeat(" ", 1199) + "\n" + strings.Repeat(" ", 100)} {
		for _, n := range []int{0, 1, 1198, 1199, 1200, 1201, 1202, 1300} {
			part := text[:min(n, len(text))]
			name := fmt.Sprintf("%d bytes", len(part))
			got := seesScript(t, name, w, part)
			sameCode(t, name, got.Code, when(n > 1200, impl.ErrMany))
		}
	}
	for _, n := range []int{1201, 1202, 2400, 65536 + 7} {
		noScript(t, fmt.Sprintf("%d bytes", n), impl.RunScript(w, strings.Repeat("a", n)), impl.ErrMany)
		noScript(t, fmt.Sprintf("%d line feeds", n), impl.RunScript(w, strings.Repeat("\n", n)), impl.ErrMany)
	}
}

func TestRunScriptOfLines(t *testing.T) {
	w := begunWorld(t)
	for _, line := range []string{"", " ", "tick 1", "wink", "show ", "\r", "\t"} {
		for _, n := range []int{0, 1, 2, 38, 39, 40, 41, 42, 80} {
			lines := strings.Repeat(line+"\n", n)
			name := fmt.Sprintf("%d lines %q", n, line)
			sameCode(t, name, seesScript(t, name, w, lines).Code, when(n > 40, impl.ErrMany))
			// What is behind the last line feed is a line, if it is not empty.
			for _, last := range []string{" ", "x", "tick 1", "\r"} {
				sameCode(t, name+" and one", seesScript(t, name+" and one", w, lines+last).Code, when(n > 39, impl.ErrMany))
			}
		}
	}
	for n := range 60 {
		name := fmt.Sprintf("%d line feeds", n)
		want := impl.ScriptResult{World: w}
		if n > 40 {
			want = impl.ScriptResult{Code: impl.ErrMany}
		}
		sameScript(t, name, seesScript(t, name, w, strings.Repeat("\n", n)), want)
	}
}

func TestRunScriptCodesInOrder(t *testing.T) {
	many := []string{"", "\n", "show", "wink", strings.Repeat("\n", 41), strings.Repeat("x", 1201)}
	for _, x := range wrongWorlds() {
		for _, text := range many {
			noScript(t, x.name, seesScript(t, x.name, x.w, text), x.code)
		}
	}
	// Where there are too many, no line is done.
	for _, text := range []string{strings.Repeat("tick 1\n", 41), "tick 1\n" + strings.Repeat("wink\n", 40), "tick 1\n" + strings.Repeat(" ", 1200)} {
		noScript(t, "too many", seesScript(t, "too many", impl.World{}, text), impl.ErrMany)
	}
}

func TestRunScriptOfCarriageReturns(t *testing.T) {
	says(t, impl.World{}, "tick 1\r\nshow\r\n\r\nshow\n", "! 5\n! 5\n! 5\nnow 0 0 0\n")
	says(t, impl.World{}, "tick 1\rshow\n", "! 5\n")
	says(t, impl.World{}, "tick\t1\n\xa0\nshow\u2028show\nshow\x00\nshow", "! 5\n! 5\n! 5\n! 5\nnow 0 0 0\n")
}

// codedLines are lines of each code that a line may have in the world that
// lived, or in a full one.
func codedLines() map[string]int64 {
	return map[string]int64{
		"wink": 5, "show 1": 5, "ask 0 1 0": 5, "tick 00": 5, "tick 101": 3, "issue 10 1": 3, "ask 9 1 07": 4, "ask 0 3 07": 3, "ask 0 1 01": 6, "link 1 2 0 9": 3,
		"answer 0 2 07 9": 4, "answer 0 2 07 3": 7, "hear 0 1 99": 3, "hear 0 1 3": 7, "hear 0 1 0": 8, "hear 0 1 1": 9, "revoke 0 1 77": 4, "leak 99": 4, "holds 4 1 1": 4, "holds 0 0 1": 3,
	}
}

func TestRunScriptALineWithACodeChangesNothing(t *testing.T) {
	lived := livedWorld(t)
	for line, code := range codedLines() {
		refusesLine(t, "coded", lived, line, code)
		said := fmt.Sprintf("! %d\n", code)
		for _, text := range []string{line, line + "\n", " " + line + "\n", "\n \n" + line + "\n\n"} {
			got := seesScript(t, "coded", lived, text)
			sameScript(t, text, got, impl.ScriptResult{World: lived, Said: said})
		}
		// Others go on from there, and those ahead of it stay done.
		ahead, behind := "tick 0\nissue 5 55\nleak 2\n", "show\nleak 3\nissue 6 66\nshow\n"
		want := impl.RunScript(lived, ahead+behind)
		got := seesScript(t, "coded", lived, ahead+line+"\n"+behind)
		want.Said = strings.Replace(want.Said, strings.Repeat("ok\n", 3), strings.Repeat("ok\n", 3)+said, 1)
		sameScript(t, line, got, want)
	}
	full := fullWorld(4)
	says(t, full, "answer 0 2 07 1\nissue 1 1\nlink 1 2 3 4\nask 0 1 07\n\nleak 2\n", "! 10\n! 2\n! 10\n! 10\n! 2\n")
	sameScript(t, "full", impl.RunScript(full, "answer 0 2 07 1\nissue 1 1\nlink 1 2 3 4\n"), impl.ScriptResult{World: full, Said: "! 10\n! 2\n! 10\n"})
}

func TestRunScriptShowsBetweenSteps(t *testing.T) {
	lines := []string{"issue 1 20", "issue 2 30", "link 1 2 5 9", "ask 0 1 07", "answer 0 2 07 2", "hear 0 1 0", "hear 0 1 0", "holds 0 1 2", "leak 1", "answer 0 2 08 1", "revoke 0 1 2", "wink", "tick 31"}
	w, text, said := impl.World{}, "", ""
	for _, line := range lines {
		got := lineByHand(t, w, line)
		text += line + "\nshow\n"
		if got.Code == impl.OK {
			w = got.World
			said += got.Said + "\n"
		} else {
			said += fmt.Sprintf("! %d\n", got.Code)
		}
		said += worldTextByHand(w)
		says(t, impl.World{}, text, said)
	}
}

var eventForm = regexp.MustCompile(`\A(create|accept|revoke) ([0-3]) (client|server) ([1-9][0-9]?) ([0-9])(?: ((?:[0-9a-f]{2})+))?\z`)
var linkForm = regexp.MustCompile(`\Alink ([0-3]) ([1-9]) ([1-9]) client((?: [1-9][0-9]?)*) server((?: [1-9][0-9]?)*)\z`)
var nowForm = regexp.MustCompile(`\Anow (0|[1-9][0-9]{0,3}) (0|[1-9][0-9]?) (0|[1-9][0-9]?)\z`)

func numberOfText(text string) int64 {
	v, _ := strconv.ParseInt(text, 10, 64)
	return v
}

// readEvent reads an event back from what is said of it.
func readEvent(t *testing.T, text string) impl.Event {
	t.Helper()
	found := eventForm.FindStringSubmatch(text)
	if found == nil {
		t.Errorf("no event: %q", text)
		return impl.Event{}
	}
	kind := slices.Index([]string{"", "create", "accept", "revoke"}, found[1])
	role := slices.Index([]string{"", "client", "server"}, found[3])
	return impl.Event{Kind: int64(kind), Link: numberOfText(found[2]), Role: int64(role), Context: hexed(t, found[6]), Cert: numberOfText(found[4]), By: numberOfText(found[5])}
}

func TestP17AnEventIsReadBack(t *testing.T) {
	count := 0
	eachEvent(func(e impl.Event) {
		if hasNoEventText(e) {
			return
		}
		count++
		if got := readEvent(t, impl.EventText(e).Text); !alikeEvents(got, e) {
			t.Errorf("%+v is said to be %+v", e, got)
		}
	})
	for n := range 21 {
		for b := range 256 {
			e := impl.Event{Kind: int64(1 + b%3), Link: int64(n % 4), Role: int64(1 + n%2), Context: someBytes(n), Cert: int64(1 + b%99), By: int64(b % 10)}
			if n > 0 {
				e.Context[b%n] = byte(b)
			}
			count++
			if got := readEvent(t, impl.EventText(e).Text); !alikeEvents(got, e) {
				t.Errorf("%+v is said to be %+v", e, got)
			}
		}
	}
	if count < 1000 {
		t.Errorf("only %d are read back", count)
	}
}

func sameHeldNumbers(t *testing.T, name string, text string, held []impl.Held) {
	t.Helper()
	var certs []int64
	for _, word := range strings.Fields(text) {
		certs = append(certs, numberOfText(word))
	}
	if !slices.EqualFunc(certs, held, func(cert int64, h impl.Held) bool { return cert == h.Cert }) {
		t.Errorf("%s: %q is said of %+v", name, text, held)
	}
}

// isSaidOf sees that a text is that of a world, by reading it back.
func isSaidOf(t *testing.T, name string, text string, w impl.World) {
	t.Helper()
	lines := linesByHand(text)
	if !strings.HasSuffix(text, "\n") || len(lines) != 1+len(w.Links)+len(w.Events) {
		t.Fatalf("%s: %q", name, text)
	}
	found := nowForm.FindStringSubmatch(lines[0])
	if found == nil || numberOfText(found[1]) != w.Now || numberOfText(found[2]) != int64(len(w.Signs)) || numberOfText(found[3]) != int64(len(w.Pool)) {
		t.Errorf("%s: %q", name, lines[0])
	}
	for i, l := range w.Links {
		found := linkForm.FindStringSubmatch(lines[1+i])
		if found == nil || numberOfText(found[1]) != int64(i) || numberOfText(found[2]) != l.A || numberOfText(found[3]) != l.B {
			t.Fatalf("%s: %q", name, lines[1+i])
		}
		sameHeldNumbers(t, name+": client", found[4], l.Client.Held)
		sameHeldNumbers(t, name+": server", found[5], l.Server.Held)
	}
	for i, e := range w.Events {
		line := lines[1+len(w.Links)+i]
		if got := readEvent(t, line); !alikeEvents(got, e) {
			t.Errorf("%s: %q is said of %+v", name, line, e)
		}
		sameText(t, name, impl.EventText(e), impl.OK, line)
	}
}

func TestP17AWorldIsReadBack(t *testing.T) {
	eachGoodWorld(t, func(name string, w impl.World) {
		isSaidOf(t, name, impl.WorldText(w).Text, w)
		isSaidOf(t, name, impl.StepScript(w, "show").Said, w)
		isSaidOf(t, name, impl.RunScript(w, " show ").Said, w)
	})
	for now := int64(0); now <= 9000; now += 9 {
		w := impl.World{Now: now, Signs: someSigns(int(now) % 41), Pool: poolOf(int(now) % 31), Links: linksOf(int(now) % 5)}
		for i := range w.Links {
			w.Links[i].A, w.Links[i].B = 1+now%9, 1+(now/9+int64(i))%9
			w.Links[i].Client.Held, w.Links[i].Server.Held = heldOf(int(now+int64(i))%7), heldOf(int(now/7)%7)
		}
		isSaidOf(t, fmt.Sprintf("at %d", now), impl.WorldText(w).Text, w)
	}
}

func TestP17ContextsInLinesAreReadBack(t *testing.T) {
	var contexts [][]byte
	for b := range 256 {
		contexts = append(contexts, []byte{byte(b)}, changed(someBytes(1+b%20), b%8))
	}
	for n := range 20 {
		contexts = append(contexts, someBytes(n+1), make([]byte, n+1), bytesOf(255, n+1))
	}
	begun := begunWorld(t)
	for _, context := range contexts {
		word := hex.EncodeToString(context)
		got := seesScript(t, "a context", begun, "ask 0 1 "+word+"\nanswer 0 2 "+word+" 2\nhear 0 1 0\n")
		if got.Said != "ok\nok\nok\n" || len(got.World.Events) != 2 {
			t.Fatalf("%s: %+v", word, got)
		}
		sameList(t, word+": used", impl.BytesResult{Bytes: got.World.Links[0].Client.Used[0]}, impl.OK, context)
		for _, e := range got.World.Events {
			sameList(t, word+": of the event", impl.BytesResult{Bytes: e.Context}, impl.OK, context)
			sameList(t, word+": as it is said", impl.BytesResult{Bytes: readEvent(t, impl.EventText(e).Text).Context}, impl.OK, context)
		}
		// What one byte tells apart is not answered.
		other := hex.EncodeToString(changed(context, 8*len(context)-1))
		says(t, begun, "ask 0 1 "+word+"\nanswer 0 2 "+other+" 2\nhear 0 1 0", "ok\nok\n! 8\n")
	}
}

func bytesOf(b byte, n int) []byte {
	return slices.Repeat([]byte{b}, n)
}

// scribe writes scripts, each by its seed, and knows the world that its lines
// have come to so far.
type scribe struct {
	seed  uint64
	w     impl.World
	lines []string
}

func (x *scribe) next(n int) int {
	x.seed = x.seed*6364136223846793005 + 1442695040888963407
	return int(x.seed>>33) % n
}

func (x *scribe) among(list ...string) string {
	return list[x.next(len(list))]
}

func (x *scribe) writes(t *testing.T, line string) {
	t.Helper()
	x.lines = append(x.lines, line)
	got := lineByHand(t, x.w, line)
	if got.Code == impl.OK {
		x.w = got.World
	}
}

// shows has one side ask, the other one answer, and the first one hear it, as
// far as who answers may sign by that certificate.
func (x *scribe) shows(t *testing.T) {
	t.Helper()
	link, role, context := x.next(2), 1+x.next(2), fmt.Sprintf("%02x%02x", x.next(5), len(x.lines))
	_, who := endOfWorld(&x.w, int64(link), int64(3-role))
	x.writes(t, fmt.Sprintf("ask %d %d %s", link, role, context))
	x.writes(t, fmt.Sprintf("answer %d %d %s %d", link, 3-role, context, who))
	x.writes(t, fmt.Sprintf("hear %d %d %d", link, role, len(x.w.Pool)-1))
	x.writes(t, fmt.Sprintf("holds %d %d %d", link, role, who))
	if x.next(3) == 0 {
		x.writes(t, fmt.Sprintf("revoke %d %d %d", link, role, who))
	}
}

func (x *scribe) line() string {
	end, cert := x.among("0 1", "0 2", "1 1", "1 2", "2 1", "0 3"), x.among("1", "2", "3", "4")
	context := x.among("07", "08", "0a0b")
	switch x.next(8) {
	case 0:
		return "ask " + end + " " + context
	case 1:
		return "answer " + end + " " + context + " " + cert
	case 2:
		return fmt.Sprintf("hear %s %d", end, x.next(len(x.w.Pool)+1))
	case 3:
		return x.among("revoke ", "holds ") + end + " " + cert
	case 4:
		return x.among("tick 1", "tick 5", "tick 100", "tick 101", "leak 1", "leak 2", "issue 1 200", "issue 3 2", "link 2 3 11 12", "link 0 1 2 3")
	case 5:
		return x.among("", " ", "   ")
	case 6:
		return x.among("wink", "show\t", "ask 0 1 0", "hear 0 1 00")
	}
	return x.among("show", "  show ")
}

// scriptBy has at most 40 lines, and at times a line feed behind the last one.
func scriptBy(t *testing.T, seed int, w impl.World) string {
	t.Helper()
	x := scribe{seed: uint64(seed), w: w}
	for _, line := range []string{"issue 1 20", "issue 2 300", "issue 3 9999", " issue  2 6", "link 1 2 5 9", "link 3 1 7 11 "} {
		x.writes(t, line)
	}
	for len(x.lines) < 35 {
		if x.next(4) == 0 {
			x.shows(t)
			continue
		}
		x.writes(t, x.line())
	}
	return strings.Join(x.lines, "\n") + x.among("", "\n")
}

func TestP17AScriptDoesWhatItsLinesDo(t *testing.T) {
	told := map[string]int{}
	for seed := range 40 {
		text := scriptBy(t, seed, impl.World{})
		got := seesScript(t, fmt.Sprintf("script %d", seed), impl.World{}, text)
		sameCode(t, text, got.Code, impl.OK)
		for _, line := range linesByHand(got.Said) {
			told[strings.Fields(line)[0]]++
		}
		isRight(t, text, got.World, true, true)
	}
	for word, least := range map[string]int{"ok": 500, "yes": 10, "no": 10, "!": 200, "now": 40, "create": 40, "accept": 20, "revoke": 5} {
		if told[word] < least {
			t.Errorf("%q is said %d times", word, told[word])
		}
	}
}

func TestP17AScriptThatIsCutDoesTheSame(t *testing.T) {
	lived := livedWorld(t)
	for seed := range 12 {
		w := []impl.World{{}, lived}[seed%2]
		text := scriptBy(t, 1000+seed, w)
		whole := impl.RunScript(w, text)
		for at := range len(text) {
			if text[at] != 10 {
				continue
			}
			first := impl.RunScript(w, text[:at+1])
			second := impl.RunScript(first.World, text[at+1:])
			name := fmt.Sprintf("script %d, cut at %d", seed, at)
			sameCode(t, name, firstCode(first.Code, second.Code), impl.OK)
			sameScript(t, name, impl.ScriptResult{World: second.World, Said: first.Said + second.Said}, whole)
		}
	}
}

func TestP17AScriptThatIsCutIntoItsLinesDoesTheSame(t *testing.T) {
	for seed := range 12 {
		text := scriptBy(t, 2000+seed, impl.World{})
		w, said := impl.World{}, ""
		for _, line := range strings.SplitAfter(text, "\n") {
			got := impl.RunScript(w, line)
			sameCode(t, line, got.Code, impl.OK)
			w, said = got.World, said+got.Said
		}
		sameScript(t, text, impl.RunScript(impl.World{}, text), impl.ScriptResult{World: w, Said: said})
	}
}

// linesOfAll are some that can be done, and some that cannot.
func linesOfAll() []string {
	return append(goodLines(), "", "  ", "wink", "issue 0 0", "leak 1", "ask 1 2 0a0b", "ask 0 1 0", "hear 1 2 0", "holds 1 1 99", "show\n", "tick 101")
}

func TestP1ScriptArgumentsStay(t *testing.T) {
	worlds := goodWorlds(t)
	for _, x := range wrongWorlds() {
		worlds = append(worlds, x.w)
	}
	whole := strings.Join(linesOfAll(), "\n")
	for i, was := range worlds {
		w := roomyWorld(was)
		for _, line := range linesOfAll() {
			impl.StepScript(w, line)
			if !staysWorld(w, was) {
				t.Fatalf("world %d is changed: %s", i, line)
			}
		}
		impl.RunScript(w, whole)
		impl.WorldText(w)
		for _, e := range w.Events {
			impl.EventText(e)
		}
		if !staysWorld(w, was) {
			t.Fatalf("world %d is changed", i)
		}
	}
	for _, n := range []int{0, 1, 20, 21, 601} {
		context := roomyFor(someBytes(n))
		impl.EventText(impl.Event{Kind: 1, Role: 1, Context: context, Cert: 1})
		if !stays(context, someBytes(n)) {
			t.Errorf("a context of %d bytes is changed", n)
		}
	}
}

func spanOfText(name string, text string) span {
	from := uintptr(unsafe.Pointer(unsafe.StringData(text)))
	return span{name, from, from + uintptr(len(text))}
}

func spansOfWords(name string, words []string) []span {
	spans := []span{spanOf(name, words)}
	for i, word := range words {
		spans = append(spans, spanOfText(fmt.Sprintf("%s %d", name, i), word))
	}
	return spans
}

func TestP1WordsAreNewMemory(t *testing.T) {
	for _, line := range []string{"one", " one two  three ", "issue 1 20", strings.Repeat("word ", 100), "a b a b"} {
		line = strings.Clone(line)
		first, second := impl.WordsOf(line), impl.WordsOf(line)
		lieApartButForBytes(t, line, []span{spanOfText("line", line)}, spansOfWords("first", first.Words), spansOfWords("second", second.Words))
		first.Words[0] = "spoiled"
		_ = append(first.Words[:0], "spoiled", "too")
		if !slices.Equal(second.Words, piecesByHand(line)) || !slices.Equal(impl.WordsOf(line).Words, piecesByHand(line)) {
			t.Errorf("%q: %q", line, second.Words)
		}
	}
}

// lieApartButForBytes leaves out words of one byte: the language keeps one of
// each for all programs.
func lieApartButForBytes(t *testing.T, name string, spans ...[]span) {
	t.Helper()
	all := slices.DeleteFunc(slices.Concat(spans...), func(s span) bool { return s.to-s.from < 2 })
	lieApart(t, name, all)
}

func TestP1ScriptsAreNewMemory(t *testing.T) {
	done := 0
	whole := strings.Join(linesOfAll(), "\n")
	for i, was := range goodWorlds(t) {
		for _, line := range linesOfAll() {
			w := cloneWorld(was)
			first, second := impl.StepScript(w, line), impl.StepScript(w, line)
			name := fmt.Sprintf("world %d: %s", i, line)
			lieApart(t, name, spansOfWorld("argument", w), spansOfWorld("first", first.World), spansOfWorld("second", second.World))
			sameScript(t, name, first, second)
			done += int(when(first.Code == impl.OK, 1))
		}
		for _, text := range []string{whole, "", "\n", "wink", "show", "tick 0"} {
			w := cloneWorld(was)
			first, second := impl.RunScript(w, text), impl.RunScript(w, text)
			lieApart(t, text, spansOfWorld("argument", w), spansOfWorld("first", first.World), spansOfWorld("second", second.World))
			sameScript(t, text, first, second)
		}
	}
	if done < 100 {
		t.Errorf("only %d lines are done", done)
	}
}

func TestP1ScriptsGoOnApart(t *testing.T) {
	// What is put behind one answer is not put behind another one.
	for i, w := range goodWorlds(t) {
		was := cloneWorld(w)
		for _, line := range linesOfAll() {
			got := impl.StepScript(w, line)
			run := impl.RunScript(w, strings.TrimSuffix(line, "\n"))
			for _, other := range goodLines() {
				impl.StepScript(got.World, other)
				impl.RunScript(run.World, other)
			}
			name := fmt.Sprintf("world %d: %s", i, line)
			sameScript(t, name, got, lineByHand(t, was, line))
			sameScript(t, name, run, scriptByHand(t, was, strings.TrimSuffix(line, "\n")))
		}
		if !alikeWorlds(w, was) {
			t.Errorf("world %d is changed", i)
		}
	}
}

func TestP1ScriptsHangOnArgumentsAlone(t *testing.T) {
	lived := livedWorld(t)
	text := strings.Join(goodLines(), "\n")
	want, shows := scriptByHand(t, lived, text), worldTextByHand(lived)
	ask := func() {
		t.Helper()
		sameScript(t, "RunScript", impl.RunScript(lived, text), want)
		sameText(t, "WorldText", impl.WorldText(lived), impl.OK, shows)
		sameText(t, "EventText", impl.EventText(lived.Events[1]), impl.OK, "accept 0 server 2 2 01")
		sameWords(t, " a  b ", []string{"a", "b"})
	}
	for range 20 {
		ask()
	}
	// What is done, or refused, in between leaves nothing behind.
	for _, x := range wrongWorlds() {
		impl.RunScript(x.w, text)
		impl.WorldText(x.w)
		impl.EventText(impl.Event{})
		impl.WordsOf("c d e")
		ask()
	}
	for _, line := range linesOfAll() {
		impl.StepScript(lived, line)
		impl.RunScript(impl.World{}, line)
		ask()
	}
}

func TestP1ScriptsAtOnce(t *testing.T) {
	// What is asked at the same time, of the same world, is answered as if it were asked alone.
	w := livedWorld(t)
	type said struct {
		line string
		got  impl.ScriptResult
		text impl.TextResult
	}
	all := slices.Repeat(linesOfAll(), 8)
	out := make(chan said, len(all))
	for _, line := range all {
		go func() {
			out <- said{line, impl.StepScript(w, line), impl.WorldText(w)}
		}()
	}
	for range all {
		x := <-out
		sameScript(t, "at once: "+x.line, x.got, lineByHand(t, w, x.line))
		sameText(t, "at once", x.text, impl.OK, worldTextByHand(w))
	}
}

func TestP1ScriptsOfNothing(t *testing.T) {
	// Nothing, be it nil or empty, is one value.
	empty := impl.World{Certs: []impl.Cert{}, Leaked: []int64{}, Signs: []impl.Sign{}, Links: []impl.Link{}, Pool: [][]byte{}, Events: []impl.Event{}}
	for _, w := range []impl.World{{}, empty} {
		sameText(t, "WorldText", impl.WorldText(w), impl.OK, "now 0 0 0\n")
		for _, text := range []string{"", "\n", " ", " \n "} {
			sameScript(t, "RunScript of nothing", impl.RunScript(w, text), impl.ScriptResult{})
		}
		sameScript(t, "StepScript of nothing", impl.StepScript(w, ""), impl.ScriptResult{})
		sameScript(t, "show", impl.StepScript(w, "show"), impl.ScriptResult{Said: "now 0 0 0\n"})
		noScript(t, "ask", impl.StepScript(w, "ask 0 0 07"), impl.ErrNone)
		noScript(t, "holds", impl.StepScript(w, "holds 0 0 0"), impl.ErrNone)
		noScript(t, "leak", impl.StepScript(w, "leak 0"), impl.ErrNone)
		noScript(t, "link", impl.StepScript(w, "link 0 0 0 0"), impl.ErrRange)
	}
	for _, context := range [][]byte{nil, {}} {
		sameText(t, "EventText", impl.EventText(impl.Event{Kind: 1, Role: 1, Context: context, Cert: 1}), impl.OK, "create 0 client 1 0")
	}
	sameWords(t, "", nil)
}
