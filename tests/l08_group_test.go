package tests

import (
	"bytes"
	"math"
	"math/big"
	"slices"
	"testing"

	"loop.example/g00375/impl"
)

// prime is written out, so that the bounds do not hang on what is asked for them.
const prime = 65521

// farOut lie outside all bounds of the chapter; some of them would be within, if
// their higher bits or their signs were dropped.
func farOut() []int64 {
	return []int64{-2, -17, -prime, -prime + 1, -prime - 1, 2 * prime, 2*prime + 1, 1 << 16, 1<<16 + 1, 1<<32 + 5, -(1 << 32) + 5, 1 << 62,
		math.MinInt64, math.MinInt64 + 1, math.MaxInt64, math.MaxInt64 - 1}
}

// elementsAsked are bases and shares at the edges, between them, and far out.
func elementsAsked() []int64 {
	near := []int64{-1, 0, 1, 2, 3, 17, 255, 256, 257, 32760, 32761, 65280, prime - 3, prime - 2, prime - 1, prime, prime + 1, prime + 2, 65535}
	return append(near, farOut()...)
}

func exponentsAsked() []int64 {
	near := []int64{-1, 0, 1, 2, 3, 7, 8, 100, 255, 256, 32759, 32760, 32768, prime - 3, prime - 2, prime - 1, prime, prime + 1, prime + 2, 65535}
	return append(near, farOut()...)
}

func secretsAsked() []int64 {
	near := []int64{-1, 0, 1, 2, 3, 17, 100, 32759, 32760, 32761, prime - 4, prime - 3, prime - 2, prime - 1, prime, prime + 1}
	return append(near, farOut()...)
}

func within(list []int64, low int64, high int64) []int64 {
	return slices.DeleteFunc(slices.Clone(list), func(v int64) bool {
		return v < low || v > high
	})
}

func goodElements() []int64 {
	return append(within(elementsAsked(), 1, prime-1), 4, 5, 16, 31337, 40000, 54321, 60000, 65000)
}

func goodSecrets() []int64 {
	return append(within(secretsAsked(), 1, prime-2), 4, 5, 16, 31337, 40000, 54321, 60000, 65000)
}

func hasNoElement(v int64) bool {
	return v < 1 || v >= prime
}

func hasNoSecret(v int64) bool {
	return v < 1 || v >= prime-1
}

func powerByLibrary(base int64, exponent int64) int64 {
	return new(big.Int).Exp(big.NewInt(base), big.NewInt(exponent), big.NewInt(prime)).Int64()
}

// samePower holds an answer against a power where it has no code.
func samePower(t *testing.T, name string, got impl.IntResult, code int64, base int64, exponent int64) {
	t.Helper()
	value := int64(0)
	if code == impl.OK {
		value = powerByLibrary(base, exponent)
	}
	sameInt(t, name, got, code, value)
}

func TestGroupBounds(t *testing.T) {
	if impl.Prime != prime || impl.Root != 17 {
		t.Error(impl.Prime, impl.Root)
	}
	if !big.NewInt(impl.Prime).ProbablyPrime(20) {
		t.Error("Prime is none")
	}
}

func TestPowerKnown(t *testing.T) {
	rows := []struct{ base, exponent, want int64 }{
		{17, 0, 1}, {17, 1, 17}, {17, 2, 289}, {17, 3, 4913}, {17, 4, 18000}, {17, 100, 35648},
		{1, 0, 1}, {1, 1, 1}, {1, prime, 1}, {2, 15, 32768}, {2, 16, 15}, {2, 17, 30}, {5, 0, 1},
		{prime - 1, 0, 1}, {prime - 1, 1, prime - 1}, {prime - 1, 2, 1}, {prime - 1, prime - 2, prime - 1}, {prime - 1, prime - 1, 1}, {prime - 1, prime, prime - 1},
		// What is no square comes to the other root of 1 half the way.
		{17, 32760, prime - 1}, {4, 32760, 1}, {2, prime - 2, 32761}, {256, 2, 15}, {257, 2, 528},
	}
	for _, r := range rows {
		sameInt(t, "PowerOf", impl.PowerOf(r.base, r.exponent), impl.OK, r.want)
	}
}

func TestPowerOf(t *testing.T) {
	for _, base := range elementsAsked() {
		for _, exponent := range exponentsAsked() {
			code := whenRange(hasNoElement(base) || exponent < 0 || exponent > prime)
			samePower(t, "PowerOf", impl.PowerOf(base, exponent), code, base, exponent)
		}
	}
}

func TestPowerToZero(t *testing.T) {
	for base := int64(1); base < prime; base++ {
		sameInt(t, "PowerOf to 0", impl.PowerOf(base, 0), impl.OK, 1)
		sameInt(t, "PowerOf to 1", impl.PowerOf(base, 1), impl.OK, base)
	}
	// What is no element has no power, not even to 0.
	for _, base := range []int64{-1, 0, prime, prime + 1, math.MinInt64, math.MaxInt64} {
		sameInt(t, "PowerOf no element to 0", impl.PowerOf(base, 0), impl.ErrRange, 0)
	}
}

func TestPowerStepByStep(t *testing.T) {
	for _, base := range []int64{1, 2, 17, 40000, prime - 2, prime - 1} {
		want := int64(1)
		for exponent := int64(0); exponent <= prime; exponent++ {
			sameInt(t, "PowerOf by steps", impl.PowerOf(base, exponent), impl.OK, want)
			want = want * base % prime
		}
	}
}

func TestShareOf(t *testing.T) {
	sameInt(t, "ShareOf 1", impl.ShareOf(1), impl.OK, 17)
	sameInt(t, "ShareOf 2", impl.ShareOf(2), impl.OK, 289)
	for _, secret := range secretsAsked() {
		samePower(t, "ShareOf", impl.ShareOf(secret), whenRange(hasNoSecret(secret)), 17, secret)
	}
	want := int64(1)
	for secret := int64(1); secret < prime-1; secret++ {
		want = want * 17 % prime
		sameInt(t, "ShareOf by steps", impl.ShareOf(secret), impl.OK, want)
	}
}

func TestSharedOf(t *testing.T) {
	for _, secret := range secretsAsked() {
		for _, share := range elementsAsked() {
			code := whenRange(hasNoSecret(secret) || hasNoElement(share))
			samePower(t, "SharedOf", impl.SharedOf(secret, share), code, share, secret)
		}
	}
	// Secrets and shares have bounds of their own, and stand at places of their own.
	sameInt(t, "SharedOf 3 and 2", impl.SharedOf(3, 2), impl.OK, 8)
	sameInt(t, "SharedOf 2 and 3", impl.SharedOf(2, 3), impl.OK, 9)
	sameInt(t, "a share of Prime - 1", impl.SharedOf(2, prime-1), impl.OK, 1)
	sameInt(t, "a secret of Prime - 1", impl.SharedOf(prime-1, 2), impl.ErrRange, 0)
}

func TestShareBytes(t *testing.T) {
	rows := []struct {
		share int64
		want  []byte
	}{
		{1, []byte{0, 1}}, {2, []byte{0, 2}}, {255, []byte{0, 255}}, {256, []byte{1, 0}}, {257, []byte{1, 1}},
		{289, []byte{1, 33}}, {prime - 1, []byte{255, 240}}, {65280, []byte{255, 0}},
	}
	for _, r := range rows {
		sameList(t, "ShareBytes", impl.ShareBytes(r.share), impl.OK, r.want)
		sameInt(t, "BytesShare", impl.BytesShare(r.want), impl.OK, r.share)
	}
	for _, share := range elementsAsked() {
		code, want := whenRange(hasNoElement(share)), []byte(nil)
		if code == impl.OK {
			want = []byte{byte(share / 256), byte(share % 256)}
		}
		sameList(t, "ShareBytes", impl.ShareBytes(share), code, want)
	}
}

func TestBytesShareOfAllPairs(t *testing.T) {
	for high := range 256 {
		for low := range 256 {
			share := int64(high*256 + low)
			code := whenRange(hasNoElement(share))
			if code != impl.OK {
				share = 0
			}
			sameInt(t, "BytesShare", impl.BytesShare([]byte{byte(high), byte(low)}), code, share)
		}
	}
	sameInt(t, "the bytes of 0", impl.BytesShare([]byte{0, 0}), impl.ErrRange, 0)
	sameInt(t, "the bytes of 1", impl.BytesShare([]byte{0, 1}), impl.OK, 1)
	sameInt(t, "the bytes of Prime - 1", impl.BytesShare([]byte{255, 240}), impl.OK, prime-1)
	sameInt(t, "the bytes of Prime", impl.BytesShare([]byte{255, 241}), impl.ErrRange, 0)
	sameInt(t, "the bytes of 65535", impl.BytesShare([]byte{255, 255}), impl.ErrRange, 0)
}

func TestBytesShareOfOtherLengths(t *testing.T) {
	sameInt(t, "BytesShare of nil", impl.BytesShare(nil), impl.ErrText, 0)
	sameInt(t, "BytesShare of nothing", impl.BytesShare([]byte{}), impl.ErrText, 0)
	// Bytes of which the number is none as well are asked for their length first.
	for _, n := range []int{1, 3, 4, 8, 32, 600, 601, 5000} {
		sameInt(t, "BytesShare of zeros", impl.BytesShare(make([]byte, n)), impl.ErrText, 0)
		sameInt(t, "BytesShare of 255s", impl.BytesShare(bytes.Repeat([]byte{255}, n)), impl.ErrText, 0)
		sameInt(t, "BytesShare of ones", impl.BytesShare(bytes.Repeat([]byte{1}, n)), impl.ErrText, 0)
	}
	// Nor do zeros ahead or behind, or what lies behind the end, make a share.
	for _, data := range [][]byte{{0, 1, 33}, {1, 33, 0}, {33}, roomy([]byte{1}), roomy([]byte{1, 33, 0}), roomy(nil)} {
		sameInt(t, "BytesShare of another length", impl.BytesShare(data), impl.ErrText, 0)
	}
	sameInt(t, "BytesShare of two with room", impl.BytesShare(roomy([]byte{1, 33})), impl.OK, 289)
}

func TestGroupSeveralWrongAtOnce(t *testing.T) {
	for _, wrong := range append(farOut(), -1, 0, prime, prime+1) {
		for _, other := range append(farOut(), -1, prime+1) {
			sameInt(t, "base and exponent wrong", impl.PowerOf(wrong, other), impl.ErrRange, 0)
			sameInt(t, "secret and share wrong", impl.SharedOf(wrong, other), impl.ErrRange, 0)
		}
		sameInt(t, "base alone wrong", impl.PowerOf(wrong, 1), impl.ErrRange, 0)
		sameInt(t, "secret alone wrong", impl.SharedOf(wrong, 1), impl.ErrRange, 0)
		sameInt(t, "share alone wrong", impl.SharedOf(1, wrong), impl.ErrRange, 0)
		sameInt(t, "secret of nobody", impl.ShareOf(wrong), impl.ErrRange, 0)
		sameList(t, "bytes of no share", impl.ShareBytes(wrong), impl.ErrRange, nil)
	}
	for _, wrong := range append(farOut(), -1, prime+1) {
		sameInt(t, "exponent alone wrong", impl.PowerOf(1, wrong), impl.ErrRange, 0)
	}
}

// comeTo tells what one with a secret of its own comes to, by the bytes that the
// other one tells of its share.
func comeTo(t *testing.T, own int64, others int64) int64 {
	t.Helper()
	told := impl.ShareBytes(impl.ShareOf(others).Value)
	heard := impl.BytesShare(told.Bytes)
	got := impl.SharedOf(own, heard.Value)
	if told.Code != impl.OK || heard.Code != impl.OK || got.Code != impl.OK {
		t.Errorf("of the secrets %d and %d: %+v, %+v, %+v", own, others, told, heard, got)
	}
	return got.Value
}

func TestP9TwoComeToTheSame(t *testing.T) {
	for _, a := range goodSecrets() {
		for _, b := range goodSecrets() {
			want := powerByLibrary(17, a*b)
			if comeTo(t, a, b) != want || comeTo(t, b, a) != want {
				t.Errorf("of the secrets %d and %d: %d and %d, want %d", a, b, comeTo(t, a, b), comeTo(t, b, a), want)
			}
		}
	}
	for a := int64(1); a < prime-1; a += 7 {
		b := a*31%(prime-2) + 1
		if comeTo(t, a, b) != comeTo(t, b, a) {
			t.Errorf("the secrets %d and %d come to what is not the same", a, b)
		}
	}
}

func TestP9NoTwoSecretsHaveOneShare(t *testing.T) {
	// Else others than the two would come to the same.
	seen := make([]int64, prime)
	for secret := int64(1); secret < prime-1; secret++ {
		share := impl.ShareOf(secret)
		if share.Code != impl.OK || hasNoElement(share.Value) {
			t.Fatalf("ShareOf %d: %+v", secret, share)
		}
		if seen[share.Value] != 0 {
			t.Fatalf("%d and %d have the share %d", seen[share.Value], secret, share.Value)
		}
		seen[share.Value] = secret
	}
}

func TestP9PowersOfSumsAreProductsOfPowers(t *testing.T) {
	exponents := within(exponentsAsked(), 0, prime)
	for _, base := range goodElements() {
		for _, x := range exponents {
			for _, y := range exponents {
				if x+y > prime {
					continue
				}
				product := impl.PowerOf(base, x).Value * impl.PowerOf(base, y).Value % prime
				sameInt(t, "PowerOf a sum", impl.PowerOf(base, x+y), impl.OK, product)
			}
		}
	}
}

func TestP9SumsUpToPrime(t *testing.T) {
	// All pairs of exponents that come to Prime, the highest one: what it leaves is the base.
	for _, base := range []int64{1, 2, 17, 54321, prime - 1} {
		for x := int64(0); x <= prime; x++ {
			product := impl.PowerOf(base, x).Value * impl.PowerOf(base, prime-x).Value % prime
			if product != base {
				t.Fatalf("%d to %d and to %d comes to %d", base, x, prime-x, product)
			}
		}
		sameInt(t, "PowerOf to Prime", impl.PowerOf(base, prime), impl.OK, base)
		sameInt(t, "PowerOf to Prime - 1", impl.PowerOf(base, prime-1), impl.OK, 1)
	}
}

func TestP9SharesAreReadBack(t *testing.T) {
	for share := int64(1); share < prime; share++ {
		told := impl.ShareBytes(share)
		if told.Code != impl.OK || len(told.Bytes) != 2 {
			t.Errorf("ShareBytes of %d: %+v", share, told)
		}
		sameInt(t, "a share read back", impl.BytesShare(told.Bytes), impl.OK, share)
	}
}

func TestP1GroupArgumentsStay(t *testing.T) {
	for _, was := range [][]byte{{}, {0}, {1}, {0, 0}, {0, 1}, {1, 33}, {255, 240}, {255, 241}, {255, 255}, {1, 2, 3}, someBytes(600), someBytes(601)} {
		data := roomyFor(was)
		impl.BytesShare(data)
		if !stays(data, was) {
			t.Errorf("BytesShare changes an argument of %d bytes", len(was))
		}
	}
}

func TestP1GroupAnswersAreNewMemory(t *testing.T) {
	for _, share := range goodElements() {
		want := []byte{byte(share / 256), byte(share % 256)}
		first := impl.ShareBytes(share)
		second := impl.ShareBytes(share)
		spoil(first.Bytes)
		sameList(t, "ShareBytes told ahead", second, impl.OK, want)
		_ = append(second.Bytes, 0xa5)
		sameList(t, "ShareBytes told behind", impl.ShareBytes(share), impl.OK, want)
		told := impl.BytesShare(second.Bytes)
		spoil(second.Bytes)
		sameInt(t, "BytesShare of what is changed behind it", told, impl.OK, share)
	}
}

func TestP1GroupHangsOnArgumentsAlone(t *testing.T) {
	ask := func() {
		sameInt(t, "PowerOf", impl.PowerOf(17, 100), impl.OK, 35648)
		sameInt(t, "PowerOf to 0", impl.PowerOf(5, 0), impl.OK, 1)
		sameInt(t, "ShareOf", impl.ShareOf(2), impl.OK, 289)
		sameInt(t, "SharedOf", impl.SharedOf(2, 17), impl.OK, 289)
		sameList(t, "ShareBytes", impl.ShareBytes(289), impl.OK, []byte{1, 33})
		sameInt(t, "BytesShare", impl.BytesShare([]byte{1, 33}), impl.OK, 289)
		sameInt(t, "BytesShare of nothing", impl.BytesShare(nil), impl.ErrText, 0)
	}
	ask()
	for _, v := range append(elementsAsked(), exponentsAsked()...) {
		impl.PowerOf(v, v)
		impl.PowerOf(17, v)
		impl.ShareOf(v)
		impl.SharedOf(v, v)
		impl.SharedOf(2, v)
		impl.ShareBytes(v)
		impl.BytesShare([]byte{byte(v >> 8), byte(v)})
		impl.BytesShare([]byte{byte(v)})
		ask()
	}
}
