package tests

import (
	"bytes"
	"math"
	"testing"
)

const (
	leastInt    = math.MinInt
	greatestInt = math.MaxInt
)

// picker gives the same row of numbers in every run, so that a failure comes again.
type picker struct{ state uint64 }

func (p *picker) next() uint64 {
	p.state = p.state*6364136223846793005 + 1442695040888963407
	x := p.state
	x ^= x >> 33
	x *= 0xff51afd7ed558ccd
	x ^= x >> 33
	return x
}

func (p *picker) below(n int) int { return int(p.next() % uint64(n)) }

func (p *picker) bytes(n int) []byte {
	out := make([]byte, n)
	for i := range out {
		out[i] = byte(p.next())
	}
	return out
}

// guarded lays bytes into the middle of a greater array, where whatever is written around them shows too.
type guarded struct{ whole, was, part []byte }

func guard(b []byte) guarded {
	const edge = 32
	whole := bytes.Repeat([]byte{0xA5}, edge+len(b)+edge)
	copy(whole[edge:], b)
	return guarded{whole, bytes.Clone(whole), whole[edge : edge+len(b)]}
}

func (g guarded) check(t *testing.T, what string) {
	t.Helper()
	if !bytes.Equal(g.whole, g.was) {
		t.Errorf("%s wrote into its argument or around it", what)
	}
}

// sameFloat tells +0 from -0 and counts every NaN as one.
func sameFloat(x, y float64) bool {
	return math.IsNaN(x) && math.IsNaN(y) || math.Float64bits(x) == math.Float64bits(y)
}
