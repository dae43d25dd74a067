package tests

import (
	"bytes"
	"crypto/hkdf"
	"crypto/sha256"
	"math"
	"slices"
	"strings"
	"testing"

	"loop.example/g00375/impl"
)

// extractByLibrary and what stands behind it are what the program's answers are
// held against.
func extractByLibrary(t *testing.T, salt []byte, data []byte) []byte {
	t.Helper()
	key, err := hkdf.Extract(sha256.New, data, salt)
	if err != nil {
		t.Fatal(err)
	}
	return key
}

func deriveByHand(t *testing.T, key []byte, label string) []byte {
	t.Helper()
	digest := sha256.Sum256(nil)
	return expandByLibrary(t, key, labelByHand(label, digest[:], 32), 32)
}

func earlyByHand(t *testing.T, psk []byte) []byte {
	t.Helper()
	if len(psk) == 0 {
		psk = make([]byte, 32)
	}
	return extractByLibrary(t, make([]byte, 32), psk)
}

func handshakeByHand(t *testing.T, early []byte, shared []byte) []byte {
	t.Helper()
	return extractByLibrary(t, deriveByHand(t, early, "derived"), shared)
}

func masterByHand(t *testing.T, handshake []byte) []byte {
	t.Helper()
	return extractByLibrary(t, deriveByHand(t, handshake, "derived"), make([]byte, 32))
}

func trafficByHand(t *testing.T, secret []byte, label string, digest []byte) []byte {
	t.Helper()
	return expandByLibrary(t, secret, labelByHand(label, digest, 32), 32)
}

func secretsByHand(t *testing.T, master []byte, digest []byte) impl.Secrets {
	t.Helper()
	return impl.Secrets{
		Client:   trafficByHand(t, master, "c ap traffic", digest),
		Server:   trafficByHand(t, master, "s ap traffic", digest),
		Exporter: trafficByHand(t, master, "exp master", digest),
		Resume:   trafficByHand(t, master, "res master", digest),
	}
}

func exportByHand(t *testing.T, exporter []byte, label string, context []byte, n int64) []byte {
	t.Helper()
	digest := sha256.Sum256(context)
	return expandByLibrary(t, deriveByHand(t, exporter, label), labelByHand("exporter", digest[:], n), n)
}

func fourOf(s impl.Secrets) [][]byte {
	return [][]byte{s.Client, s.Server, s.Exporter, s.Resume}
}

func cloneSecrets(s impl.Secrets) impl.Secrets {
	return impl.Secrets{Client: bytes.Clone(s.Client), Server: bytes.Clone(s.Server), Exporter: bytes.Clone(s.Exporter), Resume: bytes.Clone(s.Resume)}
}

func sameSecrets(t *testing.T, name string, got impl.SecretsResult, code int64, want impl.Secrets) {
	t.Helper()
	if got.Code != code || !slices.EqualFunc(fourOf(got.Secrets), fourOf(want), bytes.Equal) {
		t.Errorf("%s: %+v, want code %d, secrets %+v", name, got, code, want)
	}
}

// keysOfSchedule and the like have the edges, inside the bounds and outside
// them.
func keysOfSchedule() [][]byte {
	return append(lists(0, 1, 16, 31, 32, 33, 63, 64, 65, 500, 501, 601), nil, make([]byte, 31), make([]byte, 32), make([]byte, 33), make([]byte, 64), rising(32), bytes.Repeat([]byte{255}, 32))
}

func mixesOfSchedule() [][]byte {
	return append(lists(0, 1, 2, 31, 32, 33, 63, 64, 65, 66, 128, 500, 501, 601), nil, make([]byte, 1), make([]byte, 31), make([]byte, 32), make([]byte, 33), make([]byte, 64), make([]byte, 65))
}

func goodKeys() [][]byte {
	return [][]byte{make([]byte, 32), rising(32), someBytes(32), bytes.Repeat([]byte{255}, 32)}
}

func edgeLabels() []string {
	return []string{"", "a", " ", "~", "\x1f", "\x7f", "a\x1f", "a\x7f", "exporter", "derived", strings.Repeat("x", 40), strings.Repeat("x", 41)}
}

func TestScheduleKnown(t *testing.T) {
	// The handshake of RFC 8448, 3: from no key on to all four secrets.
	early := impl.EarlySecret(nil)
	sameList(t, "early", early, impl.OK, hexed(t, "33ad0a1c607ec03b09e6cd9893680ce210adf300aa1f2660e1b22e10f170f92a"))
	shared := hexed(t, "8bd4054fb55b9d63fdfbacf9f04b9f0d35e6d63f537563efd46272900f89492d")
	handshake := impl.HandshakeSecret(early.Bytes, shared)
	sameList(t, "handshake", handshake, impl.OK, hexed(t, "1dc826e93606aa6fdc0aadc12f741b01046aa6b99f691ed221a9f0ca043fbeac"))
	hellos := hexed(t, "860c06edc07858ee8e78f0e7428c58edd6b43f2ca3e6e95f02ed063cf0e1cad8")
	sameList(t, "c hs traffic", impl.TrafficOf(handshake.Bytes, "c hs traffic", hellos), impl.OK, hexed(t, "b3eddb126e067f35a780b3abf45e2d8f3b1a950738f52e9600746a0e27a55a21"))
	sameList(t, "s hs traffic", impl.TrafficOf(handshake.Bytes, "s hs traffic", hellos), impl.OK, hexed(t, "b67b7d690cc16c4e75e54213cb2d37b4e9c912bcded9105d42befd59d391ad38"))
	master := impl.MasterSecret(handshake.Bytes)
	sameList(t, "master", master, impl.OK, hexed(t, "18df06843d13a08bf2a449844c5f8a478001bc4d4c627984d5a41da8d0402919"))
	finished := hexed(t, "9608102a0f1ccc6db6250b7b7e417b1a000eaada3daae4777a7686c9ff83df13")
	got := impl.SecretsOf(master.Bytes, finished)
	sameList(t, "c ap traffic", impl.BytesResult{Code: got.Code, Bytes: got.Secrets.Client}, impl.OK, hexed(t, "9e40646ce79a7f9dc05af8889bce6552875afa0b06df0087f792ebb7c17504a5"))
	sameList(t, "s ap traffic", impl.BytesResult{Code: got.Code, Bytes: got.Secrets.Server}, impl.OK, hexed(t, "a11af9f05531f856ad47116b45a950328204b4f44bfb6b3a4b4f1f3fcb631643"))
	sameList(t, "exp master", impl.BytesResult{Code: got.Code, Bytes: got.Secrets.Exporter}, impl.OK, hexed(t, "fe22f881176eda18eb8f44529e6792c50c9a3f89452f68d8ae311b4309d3cf50"))
	// There the last one is told by a longer list of messages.
	all := impl.SecretsOf(master.Bytes, hexed(t, "209145a96ee8e2a122ff810047cc952684658d6049e86429426db87c54ad143d"))
	sameList(t, "res master", impl.BytesResult{Code: all.Code, Bytes: all.Secrets.Resume}, impl.OK, hexed(t, "7df235f2031d2a051287d02b0241b0bfdaf86cc856231f2d5aba46c434ec196c"))
}

func TestExportKnown(t *testing.T) {
	// Reckoned by Python's hmac: of bytes 0 to 31, and of the exporter above.
	rows := []struct {
		exporter, label, context string
		n                        int64
		want                     string
	}{
		{"000102030405060708090a0b0c0d0e0f101112131415161718191a1b1c1d1e1f", "label", "01", 20, "75a472e8b67c6e94fa936d1949388bb65e62dd9a"},
		{"000102030405060708090a0b0c0d0e0f101112131415161718191a1b1c1d1e1f", "label", "", 32, "32a3567b54d21b50117dbc90ae0cbc5cb40a124e7b4f3f373ee37fc2af3dbb38"},
		{"fe22f881176eda18eb8f44529e6792c50c9a3f89452f68d8ae311b4309d3cf50", "channel binding", "", 32, "2f6adcf7b9de95d02b0c407be56166d89dda9afd9e8ff36ed5224b7451a1ab1e"},
		{"fe22f881176eda18eb8f44529e6792c50c9a3f89452f68d8ae311b4309d3cf50", "auth client context", "00ff", 33, "23bcbb222a9b291e64e46cfa9e12a3e12976ada7eb973a2d43ccd66b3b1287ef8e"},
		{"000102030405060708090a0b0c0d0e0f101112131415161718191a1b1c1d1e1f", "~", "", 1, "92"},
	}
	for _, r := range rows {
		sameList(t, "ExportKey of "+r.label, impl.ExportKey(hexed(t, r.exporter), r.label, hexed(t, r.context), r.n), impl.OK, hexed(t, r.want))
	}
}

func TestEarlySecret(t *testing.T) {
	for _, psk := range mixesOfSchedule() {
		code := whenAbove(len(psk), 64)
		var want []byte
		if code == impl.OK {
			want = earlyByHand(t, psk)
		}
		sameList(t, "EarlySecret", impl.EarlySecret(psk), code, want)
	}
	for n := range 70 {
		code, want := whenAbove(n, 64), []byte(nil)
		if code == impl.OK {
			want = earlyByHand(t, someBytes(n))
		}
		sameList(t, "EarlySecret of any length", impl.EarlySecret(someBytes(n)), code, want)
	}
}

func TestEarlySecretOfNothing(t *testing.T) {
	zeros := impl.EarlySecret(make([]byte, impl.KeyBytes))
	sameList(t, "no psk", impl.EarlySecret(nil), impl.OK, zeros.Bytes)
	sameList(t, "an empty psk", impl.EarlySecret([]byte{}), impl.OK, zeros.Bytes)
	for n := 1; n <= 64; n++ {
		got := impl.EarlySecret(make([]byte, n))
		if got.Code != impl.OK || bytes.Equal(got.Bytes, zeros.Bytes) != (n == impl.KeyBytes) {
			t.Errorf("a psk of %d zeros: %+v", n, got)
		}
	}
}

func TestHandshakeSecret(t *testing.T) {
	for _, early := range keysOfSchedule() {
		for _, shared := range mixesOfSchedule() {
			code := firstCode(whenForm(len(early) != 32), whenAbove(len(shared), 64))
			var want []byte
			if code == impl.OK {
				want = handshakeByHand(t, early, shared)
			}
			sameList(t, "HandshakeSecret", impl.HandshakeSecret(early, shared), code, want)
		}
	}
}

func TestHandshakeSecretOfNothing(t *testing.T) {
	// Here nothing stays nothing: only of a psk it is so many zeros.
	early := someBytes(32)
	want := macByLibrary(deriveByHand(t, early, "derived"), nil)
	sameList(t, "nothing shared", impl.HandshakeSecret(early, nil), impl.OK, want)
	sameList(t, "an empty shared", impl.HandshakeSecret(early, []byte{}), impl.OK, want)
	for n := 1; n <= 64; n++ {
		got := impl.HandshakeSecret(early, make([]byte, n))
		if got.Code != impl.OK || bytes.Equal(got.Bytes, want) {
			t.Errorf("shared of %d zeros: %+v", n, got)
		}
	}
}

func TestMasterSecret(t *testing.T) {
	for _, handshake := range keysOfSchedule() {
		code := whenForm(len(handshake) != 32)
		var want []byte
		if code == impl.OK {
			want = masterByHand(t, handshake)
		}
		sameList(t, "MasterSecret", impl.MasterSecret(handshake), code, want)
	}
	for n := range 70 {
		if n != 32 {
			sameList(t, "MasterSecret of any length", impl.MasterSecret(someBytes(n)), impl.ErrForm, nil)
		}
	}
}

func TestTrafficOf(t *testing.T) {
	for _, secret := range keysOfSchedule() {
		for _, digest := range keysOfSchedule() {
			for _, label := range edgeLabels() {
				code := firstCode(whenForm(len(secret) != 32 || len(digest) != 32), whenNoLabel(label))
				var want []byte
				if code == impl.OK {
					want = trafficByHand(t, secret, label, digest)
				}
				sameList(t, "TrafficOf "+label, impl.TrafficOf(secret, label, digest), code, want)
			}
		}
	}
	for _, label := range append(goodLabels(), wrongLabels()...) {
		code, want := whenNoLabel(label), []byte(nil)
		if code == impl.OK {
			want = trafficByHand(t, rising(32), label, someBytes(32))
		}
		sameList(t, "TrafficOf "+label, impl.TrafficOf(rising(32), label, someBytes(32)), code, want)
	}
}

func TestSecretsOf(t *testing.T) {
	for _, master := range keysOfSchedule() {
		for _, digest := range keysOfSchedule() {
			code := whenForm(len(master) != 32 || len(digest) != 32)
			var want impl.Secrets
			if code == impl.OK {
				want = secretsByHand(t, master, digest)
			}
			sameSecrets(t, "SecretsOf", impl.SecretsOf(master, digest), code, want)
		}
	}
}

func TestExportKey(t *testing.T) {
	for _, exporter := range lists(0, 31, 32, 33, 64) {
		for _, label := range edgeLabels() {
			for _, context := range append(lists(0, 1, 32, 100, 101, 601), nil, make([]byte, 1), make([]byte, 100)) {
				for _, n := range []int64{math.MinInt64, -1, 0, 1, 32, 33, 255, 256, 1<<32 + 5, math.MaxInt64} {
					code := firstCode(whenForm(len(exporter) != 32), whenNoLabel(label), whenAbove(len(context), 100), whenNoCount(n))
					var want []byte
					if code == impl.OK {
						want = exportByHand(t, exporter, label, context, n)
					}
					sameList(t, "ExportKey of "+label, impl.ExportKey(exporter, label, context, n), code, want)
				}
			}
		}
	}
}

func TestExportKeyOfEachArgument(t *testing.T) {
	for _, exporter := range keysOfSchedule() {
		code, want := whenForm(len(exporter) != 32), []byte(nil)
		if code == impl.OK {
			want = exportByHand(t, exporter, "label", rising(9), 40)
		}
		sameList(t, "ExportKey by an exporter", impl.ExportKey(exporter, "label", rising(9), 40), code, want)
	}
	for _, label := range append(goodLabels(), wrongLabels()...) {
		code, want := whenNoLabel(label), []byte(nil)
		if code == impl.OK {
			want = exportByHand(t, rising(32), label, rising(9), 40)
		}
		sameList(t, "ExportKey of "+label, impl.ExportKey(rising(32), label, rising(9), 40), code, want)
	}
	for _, context := range someContexts() {
		code, want := whenAbove(len(context), 100), []byte(nil)
		if code == impl.OK {
			want = exportByHand(t, rising(32), "label", context, 40)
		}
		sameList(t, "ExportKey with a context", impl.ExportKey(rising(32), "label", context, 40), code, want)
	}
	for _, n := range someCounts() {
		code, want := whenNoCount(n), []byte(nil)
		if code == impl.OK {
			want = exportByHand(t, rising(32), "label", rising(9), n)
		}
		sameList(t, "ExportKey of a length", impl.ExportKey(rising(32), "label", rising(9), n), code, want)
	}
}

func TestScheduleCodesInOrder(t *testing.T) {
	good, long := rising(32), strings.Repeat("x", 41)
	for _, wrong := range lists(0, 31, 33, 64, 65, 601) {
		sameList(t, "early and shared wrong", impl.HandshakeSecret(wrong, make([]byte, 65)), impl.ErrForm, nil)
		sameList(t, "secret, label and digest wrong", impl.TrafficOf(wrong, "", wrong), impl.ErrForm, nil)
		sameList(t, "secret and label wrong", impl.TrafficOf(wrong, long, good), impl.ErrForm, nil)
		sameList(t, "label and digest wrong", impl.TrafficOf(good, "\x7f", wrong), impl.ErrForm, nil)
		sameList(t, "secret alone wrong", impl.TrafficOf(wrong, "a", good), impl.ErrForm, nil)
		sameList(t, "digest alone wrong", impl.TrafficOf(good, "a", wrong), impl.ErrForm, nil)
		sameSecrets(t, "master and digest wrong", impl.SecretsOf(wrong, wrong), impl.ErrForm, impl.Secrets{})
		sameSecrets(t, "master alone wrong", impl.SecretsOf(wrong, good), impl.ErrForm, impl.Secrets{})
		sameSecrets(t, "digest alone wrong", impl.SecretsOf(good, wrong), impl.ErrForm, impl.Secrets{})
		sameList(t, "all of an export wrong", impl.ExportKey(wrong, "", make([]byte, 101), -1), impl.ErrForm, nil)
		sameList(t, "exporter and n wrong", impl.ExportKey(wrong, "a", nil, 256), impl.ErrForm, nil)
		sameList(t, "exporter and context wrong", impl.ExportKey(wrong, "a", make([]byte, 101), 0), impl.ErrForm, nil)
	}
	sameList(t, "shared alone wrong", impl.HandshakeSecret(good, make([]byte, 65)), impl.ErrMany, nil)
	sameList(t, "label alone wrong", impl.TrafficOf(good, long, good), impl.ErrText, nil)
	sameList(t, "all but the exporter wrong", impl.ExportKey(good, long, make([]byte, 101), -1), impl.ErrText, nil)
	sameList(t, "label and context wrong", impl.ExportKey(good, "\x1f", make([]byte, 101), 1), impl.ErrText, nil)
	sameList(t, "label and n wrong", impl.ExportKey(good, "", make([]byte, 100), 256), impl.ErrText, nil)
	sameList(t, "context and n wrong", impl.ExportKey(good, "a", make([]byte, 101), 256), impl.ErrMany, nil)
	sameList(t, "n alone wrong", impl.ExportKey(good, "a", make([]byte, 100), 256), impl.ErrRange, nil)
	sameList(t, "nothing wrong", impl.ExportKey(good, "a", make([]byte, 100), 0), impl.OK, nil)
}

func TestP8EachSecretIsToldByTheOneAhead(t *testing.T) {
	zeros := make([]byte, impl.KeyBytes)
	for _, psk := range lists(1, 32, 63, 64) {
		sameList(t, "EarlySecret", impl.EarlySecret(psk), impl.OK, impl.ExtractKey(nil, psk).Bytes)
	}
	for _, ahead := range goodKeys() {
		derived := impl.DeriveKey(ahead, "derived", nil).Bytes
		for _, shared := range lists(0, 1, 2, 32, 63, 64) {
			sameList(t, "HandshakeSecret", impl.HandshakeSecret(ahead, shared), impl.OK, impl.ExtractKey(derived, shared).Bytes)
		}
		sameList(t, "MasterSecret", impl.MasterSecret(ahead), impl.OK, impl.ExtractKey(derived, zeros).Bytes)
		sameList(t, "MasterSecret as if zeros were shared", impl.MasterSecret(ahead), impl.OK, impl.HandshakeSecret(ahead, zeros).Bytes)
		for _, digest := range goodKeys() {
			for _, label := range goodLabels() {
				sameList(t, "TrafficOf "+label, impl.TrafficOf(ahead, label, digest), impl.OK, impl.ExpandLabel(ahead, label, digest, impl.KeyBytes).Bytes)
			}
		}
	}
}

func TestP8SecretsHaveLabelsOfTheirOwn(t *testing.T) {
	for _, master := range goodKeys() {
		for _, digest := range goodKeys() {
			got := impl.SecretsOf(master, digest)
			sameSecrets(t, "SecretsOf", got, impl.OK, impl.Secrets{
				Client:   impl.TrafficOf(master, "c ap traffic", digest).Bytes,
				Server:   impl.TrafficOf(master, "s ap traffic", digest).Bytes,
				Exporter: impl.TrafficOf(master, "exp master", digest).Bytes,
				Resume:   impl.TrafficOf(master, "res master", digest).Bytes,
			})
			seen := map[string]bool{string(master): true}
			for i, list := range fourOf(got.Secrets) {
				if len(list) != 32 || seen[string(list)] {
					t.Errorf("secret %d is another one's as well: %+v", i, got)
				}
				seen[string(list)] = true
			}
		}
	}
}

// unseen tells whether each answer is 32 bytes that no other one is.
func unseen(t *testing.T, seen map[string]bool, name string, got ...impl.BytesResult) {
	t.Helper()
	for i, one := range got {
		if one.Code != impl.OK || len(one.Bytes) != 32 || seen[string(one.Bytes)] {
			t.Fatalf("%s, answer %d: %+v", name, i, one)
		}
		seen[string(one.Bytes)] = true
	}
}

func TestP8SecretsHangOnEachBit(t *testing.T) {
	secret, digest := someBytes(32), rising(32)
	seen := map[string]bool{}
	for bit := range 256 {
		other := changed(secret, bit)
		unseen(t, seen, "a bit of the secret ahead", impl.EarlySecret(other), impl.HandshakeSecret(other, digest), impl.HandshakeSecret(secret, other), impl.MasterSecret(other),
			impl.TrafficOf(other, "label", digest), impl.TrafficOf(secret, "label", changed(digest, bit)), impl.ExportKey(other, "label", digest, 32))
		for _, got := range []impl.SecretsResult{impl.SecretsOf(other, digest), impl.SecretsOf(secret, changed(digest, bit))} {
			for _, list := range fourOf(got.Secrets) {
				unseen(t, seen, "a bit of master or digest", impl.BytesResult{Code: got.Code, Bytes: list})
			}
		}
	}
}

func TestP8LengthsAreToldApart(t *testing.T) {
	// Zeros count here, unlike those behind a key: these are data.
	seen := map[string]bool{}
	unseen(t, seen, "no psk", impl.EarlySecret(nil))
	unseen(t, seen, "nothing shared", impl.HandshakeSecret(rising(32), nil))
	for n := 1; n <= 64; n++ {
		if n != 32 {
			unseen(t, seen, "a psk of zeros", impl.EarlySecret(make([]byte, n)))
		}
		unseen(t, seen, "shared of zeros", impl.HandshakeSecret(rising(32), make([]byte, n)))
	}
}

func TestP8ExportIsToldByLabelContextAndLength(t *testing.T) {
	for _, exporter := range goodKeys() {
		for _, label := range goodLabels() {
			own := impl.DeriveKey(exporter, label, nil).Bytes
			for _, context := range lists(0, 1, 32, 100) {
				digest := impl.DigestOf(context).Bytes
				for _, n := range goodCounts() {
					sameList(t, "ExportKey of "+label, impl.ExportKey(exporter, label, context, n), impl.OK, impl.ExpandLabel(own, "exporter", digest, n).Bytes)
				}
			}
		}
	}
}

func TestP8ExportsAreToldApart(t *testing.T) {
	seen := map[string]bool{}
	for _, label := range []string{"a", "b", "ab", "a ", " a", "A", "aa", "exporter", "derived", strings.Repeat("a", 40)} {
		for _, context := range []string{"", "a", "\x00", "\x00\x00", "b", "ab", strings.Repeat("a", 100)} {
			unseen(t, seen, "ExportKey of "+label, impl.ExportKey(rising(32), label, []byte(context), 32))
			// A length is told as well: a shorter one is no beginning of a longer one.
			for _, n := range []int64{33, 64, 255} {
				got := impl.ExportKey(rising(32), label, []byte(context), n)
				if int64(len(got.Bytes)) != n {
					t.Fatalf("ExportKey of %d bytes: %+v", n, got)
				}
				unseen(t, seen, "the beginning of a longer one", impl.BytesResult{Code: got.Code, Bytes: got.Bytes[:32]})
			}
		}
	}
	for n := range int64(256) {
		got := impl.ExportKey(rising(32), "a", nil, n)
		sameList(t, "ExportKey to any length", got, impl.OK, exportByHand(t, rising(32), "a", nil, n))
	}
}

// scheduleAsks are the functions of the chapter that answer one list, of lists
// that suit them; the label is that of TrafficOf and ExportKey.
func scheduleAsks() map[string]func(a []byte, label string, b []byte) impl.BytesResult {
	return map[string]func(a []byte, label string, b []byte) impl.BytesResult{
		"EarlySecret": func(a []byte, label string, b []byte) impl.BytesResult {
			return impl.EarlySecret(b)
		},
		"HandshakeSecret": func(a []byte, label string, b []byte) impl.BytesResult {
			return impl.HandshakeSecret(a, b)
		},
		"MasterSecret": func(a []byte, label string, b []byte) impl.BytesResult {
			return impl.MasterSecret(a)
		},
		"TrafficOf": impl.TrafficOf,
		"ExportKey": func(a []byte, label string, b []byte) impl.BytesResult {
			return impl.ExportKey(a, label, b, 70)
		},
		"ExportKey of no bytes": func(a []byte, label string, b []byte) impl.BytesResult {
			return impl.ExportKey(a, label, b, 0)
		},
	}
}

func TestP1ScheduleArgumentsStay(t *testing.T) {
	for _, n := range []int{0, 1, 31, 32, 33, 64, 65, 100, 101} {
		for _, m := range []int{0, 1, 31, 32, 33, 63, 64, 65, 100, 101, 601} {
			for _, label := range []string{"a", strings.Repeat("x", 40), "", "\x7f"} {
				was := lists(n, m)
				a, b := roomyFor(was[0]), roomyFor(was[1])
				for name, ask := range scheduleAsks() {
					ask(a, label, b)
					ask(b, label, a)
					if !stays(a, was[0]) || !stays(b, was[1]) {
						t.Fatalf("%s changes an argument of %d and %d bytes", name, n, m)
					}
				}
				impl.SecretsOf(a, b)
				impl.ExportKey(a, label, b, 256)
				if !stays(a, was[0]) || !stays(b, was[1]) {
					t.Fatalf("SecretsOf, or ExportKey, changes an argument of %d and %d bytes", n, m)
				}
			}
		}
	}
}

func TestP1ScheduleAnswersAreNewMemory(t *testing.T) {
	for name, ask := range scheduleAsks() {
		a, b := rising(32), someBytes(32)
		first := ask(a, "label", b)
		want := bytes.Clone(first.Bytes)
		second := ask(a, "label", b)
		spoil(first.Bytes)
		sameList(t, name+" told ahead", second, impl.OK, want)
		sameList(t, "its first argument", impl.BytesResult{Bytes: a}, impl.OK, rising(32))
		sameList(t, "its second argument", impl.BytesResult{Bytes: b}, impl.OK, someBytes(32))
		sameList(t, name+" told behind", ask(a, "label", b), impl.OK, want)
		spoil(a)
		spoil(b)
		sameList(t, name+" of what is changed behind it", second, impl.OK, want)
	}
	// The zeros that nothing stands for are new ones each time.
	first := impl.EarlySecret(nil)
	spoil(first.Bytes)
	sameList(t, "EarlySecret of nothing", impl.EarlySecret(nil), impl.OK, earlyByHand(t, nil))
}

func TestP1FourListsAreNewMemory(t *testing.T) {
	master, digest := rising(32), someBytes(32)
	want := secretsByHand(t, master, digest)
	for i := range 4 {
		first := impl.SecretsOf(master, digest)
		second := impl.SecretsOf(master, digest)
		sameSecrets(t, "SecretsOf", first, impl.OK, want)
		spoil(fourOf(first.Secrets)[i])
		left := cloneSecrets(want)
		spoil(fourOf(left)[i][:32:32])
		sameSecrets(t, "the other three", first, impl.OK, left)
		sameSecrets(t, "SecretsOf told ahead", second, impl.OK, want)
		sameSecrets(t, "SecretsOf told behind", impl.SecretsOf(master, digest), impl.OK, want)
		sameList(t, "its master", impl.BytesResult{Bytes: master}, impl.OK, rising(32))
		sameList(t, "its digest", impl.BytesResult{Bytes: digest}, impl.OK, someBytes(32))
	}
	told := impl.SecretsOf(master, digest)
	spoil(master)
	spoil(digest)
	sameSecrets(t, "SecretsOf what is changed behind it", told, impl.OK, want)
}

func TestP1FourListsHaveRoomOfTheirOwn(t *testing.T) {
	// What is put behind one list stands in none of the others.
	got := impl.SecretsOf(rising(32), someBytes(32))
	for _, list := range fourOf(got.Secrets) {
		_ = append(list, bytes.Repeat([]byte{0xa5}, 200)...)
		_ = append(list, 0xa5)
	}
	sameSecrets(t, "SecretsOf", got, impl.OK, secretsByHand(t, rising(32), someBytes(32)))
}

func TestP1ScheduleOfOneListTwice(t *testing.T) {
	for name, ask := range scheduleAsks() {
		both := roomyFor(rising(32))
		sameList(t, name+" of one list twice", ask(both, "label", both), impl.OK, ask(rising(32), "label", rising(32)).Bytes)
		if !stays(both, rising(32)) {
			t.Errorf("%s changes that list", name)
		}
		// Two lists that lie in one another, and neither is the other.
		whole := someBytes(40)
		sameList(t, name+" of one memory", ask(whole[:32], "label", whole[8:]), impl.OK, ask(someBytes(40)[:32], "label", someBytes(40)[8:]).Bytes)
		sameList(t, "that memory", impl.BytesResult{Bytes: whole}, impl.OK, someBytes(40))
	}
	both := roomyFor(rising(32))
	sameSecrets(t, "SecretsOf one list twice", impl.SecretsOf(both, both), impl.OK, secretsByHand(t, rising(32), rising(32)))
	if !stays(both, rising(32)) {
		t.Error("SecretsOf changes that list")
	}
}

func TestP1ScheduleHangsOnArgumentsAlone(t *testing.T) {
	a, b := rising(32), someBytes(32)
	ask := func() {
		sameList(t, "EarlySecret", impl.EarlySecret(b), impl.OK, earlyByHand(t, b))
		sameList(t, "HandshakeSecret", impl.HandshakeSecret(a, b), impl.OK, handshakeByHand(t, a, b))
		sameList(t, "MasterSecret", impl.MasterSecret(a), impl.OK, masterByHand(t, a))
		sameList(t, "TrafficOf", impl.TrafficOf(a, "label", b), impl.OK, trafficByHand(t, a, "label", b))
		sameSecrets(t, "SecretsOf", impl.SecretsOf(a, b), impl.OK, secretsByHand(t, a, b))
		sameList(t, "ExportKey", impl.ExportKey(a, "label", b, 70), impl.OK, exportByHand(t, a, "label", b, 70))
	}
	ask()
	for _, other := range keysOfSchedule() {
		impl.EarlySecret(other)
		impl.HandshakeSecret(other, other)
		impl.MasterSecret(other)
		impl.TrafficOf(other, "other", other)
		impl.TrafficOf(other, "", other)
		impl.SecretsOf(other, a)
		impl.SecretsOf(b, other)
		impl.ExportKey(other, "other", other, 255)
		impl.ExportKey(other, "other", other, math.MinInt64)
		ask()
	}
}

func TestP1ScheduleOfNothing(t *testing.T) {
	// Nothing, be it nil or empty, is one value.
	key := rising(32)
	for _, none := range [][]byte{nil, {}} {
		sameList(t, "EarlySecret of nothing", impl.EarlySecret(none), impl.OK, earlyByHand(t, nil))
		sameList(t, "HandshakeSecret without a shared", impl.HandshakeSecret(key, none), impl.OK, handshakeByHand(t, key, nil))
		sameList(t, "HandshakeSecret without an early", impl.HandshakeSecret(none, key), impl.ErrForm, nil)
		sameList(t, "HandshakeSecret of nothing", impl.HandshakeSecret(none, none), impl.ErrForm, nil)
		sameList(t, "MasterSecret of nothing", impl.MasterSecret(none), impl.ErrForm, nil)
		sameList(t, "TrafficOf without a secret", impl.TrafficOf(none, "a", key), impl.ErrForm, nil)
		sameList(t, "TrafficOf without a digest", impl.TrafficOf(key, "a", none), impl.ErrForm, nil)
		sameList(t, "TrafficOf nothing", impl.TrafficOf(none, "", none), impl.ErrForm, nil)
		sameSecrets(t, "SecretsOf without a master", impl.SecretsOf(none, key), impl.ErrForm, impl.Secrets{})
		sameSecrets(t, "SecretsOf without a digest", impl.SecretsOf(key, none), impl.ErrForm, impl.Secrets{})
		sameSecrets(t, "SecretsOf nothing", impl.SecretsOf(none, none), impl.ErrForm, impl.Secrets{})
		sameList(t, "ExportKey without an exporter", impl.ExportKey(none, "a", key, 32), impl.ErrForm, nil)
		sameList(t, "ExportKey without a context", impl.ExportKey(key, "a", none, 32), impl.OK, exportByHand(t, key, "a", nil, 32))
		sameList(t, "ExportKey of no bytes", impl.ExportKey(key, "a", none, 0), impl.OK, nil)
		sameList(t, "ExportKey of nothing", impl.ExportKey(none, "", none, 0), impl.ErrForm, nil)
	}
}
