package state_test

import (
	"bytes"
	"encoding/hex"
	"math/rand"
	"strconv"
	"strings"
	"testing"

	"pupil/api"
	"pupil/state"
)

// hexed makes bytes of a text of hexadecimal digits; a sum stands behind them.
func hexed(t *testing.T, text string) []byte {
	t.Helper()
	b, err := hex.DecodeString(strings.ReplaceAll(text, " ", ""))
	if err != nil {
		t.Fatal(err)
	}
	return summed(b)
}

// summed puts their sum behind bytes, in memory of its own.
func summed(b []byte) []byte { return bytes.Join([][]byte{b, lay(wantedSum(b), 4)}, nil) }

// lay lays a number out in so many bytes, the lowest first.
func lay(n, size int) []byte {
	b := make([]byte, size)
	for i := range b {
		b[i] = byte(uint64(n) >> (8 * i))
	}
	return b
}

// wantWrite wants bytes of a state.
func wantWrite(t *testing.T, what string, s api.State, want []byte) {
	t.Helper()
	if b, e := state.Write(s); e != api.OK || !bytes.Equal(b, want) {
		t.Errorf("%s: % x, %v, want % x", what, b, e, want)
	}
}

// TestP2302Bytes: bytes written out by hand.
func TestP2302Bytes(t *testing.T) {
	noughts := strings.Repeat("00", 40)
	wantWrite(t, "the zero state", api.State{}, hexed(t, "70737401"+noughts+"0000 0000"))
	wantWrite(t, "all five numbers", api.State{Step: 0x0102030405, Epoch: 0x06, Batch: 0x0A0B, Loss: 0x1112131415161718, Rate: -2},
		hexed(t, "70737401 0504030201000000 0600000000000000 0B0A000000000000 1817161514131211 FEFFFFFFFFFFFFFF 0000 0000"))
	wantWrite(t, "ends of ints", api.State{Step: api.MaxStep, Loss: lowest, Rate: highest},
		hexed(t, "70737401 0000000000010000 0000000000000000 0000000000000000 0000000000000080 FFFFFFFFFFFFFF7F 0000 0000"))
	m := laid(2, 3, 64, 1, 2, 3, 0x3FF0000000000000, -1<<63, 0x0102030405060708)
	n := laid(3, 1, 32, 1, 0x3F800000, 1<<31)
	matrix := "40 0200 0300 0100000000000000 0200000000000000 0300000000000000 000000000000F03F 0000000000000080 0807060504030201"
	narrow := "20 0300 0100 01000000 0000803F 00000080"
	wantWrite(t, "a parameter of width 64", api.State{Params: []api.Matrix{m}}, hexed(t, "70737401"+noughts+"0100"+matrix+"0000"))
	wantWrite(t, "a parameter of width 32", api.State{Params: []api.Matrix{n}}, hexed(t, "70737401"+noughts+"0100"+narrow+"0000"))
	wantWrite(t, "both", api.State{Params: []api.Matrix{m, n, m}}, hexed(t, "70737401"+noughts+"0300"+matrix+narrow+matrix+"0000"))
	wantWrite(t, "lists", api.State{Params: []api.Matrix{n}, Slots: [][]api.Matrix{nil, {m, n}, {}, {n, n, m, n}}},
		hexed(t, "70737401"+noughts+"0100"+narrow+"0400 00 02"+matrix+narrow+"00 04"+narrow+narrow+matrix+narrow))
	wantWrite(t, "no Params", api.State{Slots: [][]api.Matrix{{n}}}, hexed(t, "70737401"+noughts+"0000 0100 01"+narrow))
}

// TestP2302Sides: sides that want both their bytes.
func TestP2302Sides(t *testing.T) {
	for _, x := range []struct {
		rows, cols int
		sides      string
	}{{1, 4096, "0100 0010"}, {4096, 1, "0010 0100"}, {257, 15, "0101 0F00"}, {8, 511, "0800 FF01"}} {
		m := laid(x.rows, x.cols, 32, make([]int, x.rows*x.cols)...)
		wantWrite(t, x.sides, api.State{Params: []api.Matrix{m}}, hexed(t, "70737401"+strings.Repeat("00", 40)+"0100 20"+x.sides+strings.Repeat("00000000", x.rows*x.cols)+"0000"))
	}
}

// TestP2302States: the bytes of many states.
func TestP2302States(t *testing.T) {
	r := rand.New(rand.NewSource(2302))
	all := append(states(), greatest())
	for range 300 {
		all = append(all, random(r))
	}
	for i, s := range all {
		b, e := state.Write(s)
		if e != api.OK || !bytes.Equal(b, wantedBytes(s)) {
			t.Errorf("%d: %d bytes, %v", i, len(b), e)
		}
		if cap(b) > 2*len(b) {
			t.Errorf("%d: %d bytes in %d", i, len(b), cap(b))
		}
	}
}

// TestP2302Pieces: each number of a state turns its own bytes and the sum, no others.
func TestP2302Pieces(t *testing.T) {
	was := written(t, sample())
	for _, x := range []struct {
		at, size int
		turn     func(s *api.State)
	}{
		{4, 8, func(s *api.State) { s.Step ^= 0x0101010101 }},
		{12, 8, func(s *api.State) { s.Epoch ^= 0x0101010101 }},
		{20, 8, func(s *api.State) { s.Batch ^= 0x0101010101 }},
		{28, 8, func(s *api.State) { s.Loss ^= 0x0101010101010101 }},
		{36, 8, func(s *api.State) { s.Rate ^= 0x0101010101010101 }},
		{51, 8, func(s *api.State) { s.Params[0].Bits[0] ^= 0x0101010101010101 }},
		{59, 8, func(s *api.State) { s.Params[0].Bits[1] ^= 0x0101010101010101 }},
		{72, 4, func(s *api.State) { s.Params[1].Bits[0] ^= 0x01010101 }},
	} {
		s := sample()
		x.turn(&s)
		got := written(t, s)
		for i := range got {
			turned := i >= x.at && i < x.at+x.size && got[i]^was[i] == 1
			if i < len(got)-4 && turned != (got[i] != was[i]) {
				t.Errorf("%d: byte %d turned from %x to %x", x.at, i, was[i], got[i])
			}
		}
		if bytes.Equal(got[x.at:x.at+5], was[x.at:x.at+5]) && x.size > 4 || bytes.Equal(got[len(got)-4:], was[len(was)-4:]) {
			t.Errorf("%d: nothing is turned", x.at)
		}
	}
}

// TestP2302Refused: Check's errors, with no bytes. (wantCheck looks at the others.)
func TestP2302Refused(t *testing.T) {
	for i, s := range []api.State{{Step: -1}, {Epoch: lowest}, {Batch: highest}, {Params: make([]api.Matrix, 1)}, {Params: make([]api.Matrix, 65)}, {Slots: make([][]api.Matrix, 65)}, {Slots: [][]api.Matrix{make([]api.Matrix, 1)}}} {
		if b, e := state.Write(s); e != api.ErrState || len(b) != 0 {
			t.Errorf("%s: %d bytes, %v", strconv.Itoa(i), len(b), e)
		}
	}
}
