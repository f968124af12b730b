package state_test

import (
	"bytes"
	"math/rand"
	"testing"

	"pupil/api"
	"pupil/state"
)

// wantSum wants a sum of bytes.
func wantSum(t *testing.T, what string, b []byte, want int) {
	t.Helper()
	if got := state.Sum(b); got != want || want != wantedSum(b) {
		t.Errorf("%s: %d, want %d, %d", what, got, want, wantedSum(b))
	}
}

// TestP2303Few: sums of a few bytes.
func TestP2303Few(t *testing.T) {
	wantSum(t, "no bytes", nil, 0)
	wantSum(t, "an empty list", []byte{}, 0)
	for x := range 256 {
		wantSum(t, "one byte", []byte{byte(x)}, x)
		wantSum(t, "a byte behind another one", []byte{0, byte(x)}, 2*x)
		wantSum(t, "two bytes", []byte{byte(x), 255}, x+510)
	}
	wantSum(t, "three bytes", []byte{1, 2, 3}, 14)
	wantSum(t, "the other way round", []byte{3, 2, 1}, 10)
	wantSum(t, "a state's", []byte{0x70, 0x73, 0x74, 1}, 694)
}

// TestP2303Wraps: sums that go over 2^32: by many bytes, and by one that stands far behind.
func TestP2303Wraps(t *testing.T) {
	// The bytes 255 up to place n come to 255 n (n + 1) / 2; 5804 of them are the first that come to 2^32 and more.
	full := bytes.Repeat([]byte{255}, api.MaxState+9)
	for _, n := range []int{5802, 5803, 5804, 5805, 8206, 8207, 8208, 1 << 16, 1<<20 - 1, api.MaxState - 1, api.MaxState, api.MaxState + 9} {
		wantSum(t, "many", full[:n], 255*(n*(n+1)/2)%(1<<32))
	}
	if below, above := 255*5803*5804/2, 255*5804*5805/2; below >= 1<<32 || above < 1<<32 {
		t.Fatalf("the test is wrong: %d, %d", below, above)
	}
	// A byte 255 at place 16843009 is just 2^32 - 1.
	for n, want := range map[int]int{16843009: 1<<32 - 1, 16843010: 254, 16843011: 509} {
		far := make([]byte, n)
		far[n-1] = 255
		wantSum(t, "far behind", far, want)
	}
	just := make([]byte, 16843009)
	just[16843008], just[0] = 255, 1
	wantSum(t, "just 2^32", just, 0)
	wantSum(t, "2^32 by a power of two", append(make([]byte, 1<<25-1), 128), 0)
}

// TestP2303Random: sums of random bytes, of random lengths.
func TestP2303Random(t *testing.T) {
	r := rand.New(rand.NewSource(2303))
	for range 200 {
		b := make([]byte, r.Intn(1<<r.Intn(16)))
		r.Read(b)
		wantSum(t, "random", b, wantedSum(b))
	}
}
