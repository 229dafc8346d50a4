package impl

import (
	"errors"
	"math"
	"strconv"
)

const (
	MaxSum = 65521
	MaxStr = 12
)

const (
	maxNumberBytes = 10
	floatBytes     = 8
	maxPrice       = 250000

	// nanBits stands for every NaN, so that a value has one row of bytes only.
	nanBits uint64 = 0x7FF8000000000000
)

// byteFault is what a reader panics with: readings are nested, and none of
// them has to hand a code through.
type byteFault struct{ code, at int }

func (f byteFault) Error() string {
	return CodeWord(f.code) + " at " + strconv.Itoa(f.at)
}

// byteReader goes along bytes; it only reads them.
type byteReader struct {
	bytes []byte
	at    int
}

func (r *byteReader) fail(code int) {
	panic(byteFault{code, r.at})
}

func (r *byteReader) checkPlace() {
	if len(r.bytes) > MaxText {
		r.fail(ErrLong)
	}
	if r.at < 0 || r.at > len(r.bytes) {
		r.fail(ErrRange)
	}
}

func (r *byteReader) take(count int) []byte {
	if count > len(r.bytes)-r.at {
		r.fail(ErrForm)
	}
	piece := r.bytes[r.at : r.at+count]
	r.at += count
	return piece
}

func (r *byteReader) number() int {
	var folded uint64
	for i := 0; ; i++ {
		piece := r.take(1)[0]
		// 64 bits are nine pieces of seven and one bit more.
		tooGreat := i == maxNumberBytes-1 && piece > 1
		needless := i > 0 && piece == 0
		if tooGreat || needless {
			r.fail(ErrForm)
		}
		folded |= uint64(piece&127) << (7 * i)
		if piece < 128 {
			return unfold(folded)
		}
	}
}

func (r *byteReader) float() float64 {
	var bits uint64
	for _, one := range r.take(floatBytes) {
		bits = bits<<8 | uint64(one)
	}
	x := math.Float64frombits(bits)
	if math.IsNaN(x) && bits != nanBits {
		r.fail(ErrForm)
	}
	return x
}

func (r *byteReader) text() string {
	count := r.number()
	if count < 0 || count > MaxStr+1 {
		r.fail(ErrForm)
	}
	return string(r.take(count))
}

// fold lays numbers of both signs out from 0 on, so that those near 0 need few bytes.
func fold(n int) uint64 {
	return uint64(n)<<1 ^ uint64(n>>63)
}

func unfold(folded uint64) int {
	return int(folded>>1) ^ -int(folded&1)
}

// readAt is the face of every reading: what a reader panicked with comes out as a code.
func readAt[T any](b []byte, at int, read func(*byteReader) T) (T, int, int) {
	r := &byteReader{bytes: b, at: at}
	value, err := tryRead(r, read)
	if err != nil {
		var none T
		return none, 0, codeOfFault(err)
	}
	return value, r.at, OK
}

func tryRead[T any](r *byteReader, read func(*byteReader) T) (value T, err error) {
	defer func() {
		if caught, ok := recover().(error); ok {
			err = caught
		}
	}()
	r.checkPlace()
	return read(r), nil
}

func codeOfFault(err error) int {
	var fault byteFault
	if errors.As(err, &fault) {
		return fault.code
	}
	return ErrForm
}

// PutNumber is a number's bytes.
func PutNumber(n int) []byte {
	var pieces [maxNumberBytes]byte
	folded := fold(n)
	count := 0
	for folded >= 128 {
		pieces[count] = byte(folded&127) + 128
		folded >>= 7
		count++
	}
	pieces[count] = byte(folded)
	return pieces[:count+1]
}

// GetNumber is the number whose bytes begin at a place, the place behind it, and a code.
func GetNumber(b []byte, at int) (int, int, int) {
	return readAt(b, at, (*byteReader).number)
}

// PutFloat is a float's bytes.
func PutFloat(x float64) []byte {
	bits := floatBits(x)
	var out [floatBytes]byte
	for i := range floatBytes {
		out[floatBytes-1-i] = byte(bits >> (8 * i))
	}
	return out[:]
}

// floatBits are alike just when floats are: +0 and -0 are two, every NaN is one.
func floatBits(x float64) uint64 {
	if math.IsNaN(x) {
		return nanBits
	}
	return math.Float64bits(x)
}

// GetFloat is the float whose bytes begin at a place, the place behind it, and a code.
func GetFloat(b []byte, at int) (float64, int, int) {
	return readAt(b, at, (*byteReader).float)
}

// PutText is a text's bytes.
func PutText(t string) []byte {
	cut := cutText(t)
	return append(PutNumber(len(cut)), cut...)
}

// cutText keeps one byte more than MaxStr, so that a text that was too long is still seen to be.
func cutText(t string) string {
	if len(t) > MaxStr {
		return t[:MaxStr+1]
	}
	return t
}

// GetText is the text whose bytes begin at a place, the place behind it, and a code.
func GetText(b []byte, at int) (string, int, int) {
	return readAt(b, at, (*byteReader).text)
}

// SumOf is the sum of bytes behind a sum.
func SumOf(b []byte, was int) int {
	if was < 0 || was >= MaxSum || len(b) > MaxText {
		return 0
	}
	sum := was
	for _, one := range b {
		sum = (31*sum + int(one) + 1) % MaxSum
	}
	return sum
}

// Ticks is how many quarters a price is, and whether it is a price.
func Ticks(x float64) (int, bool) {
	// Asked this way round, NaN is no price either.
	if !(x > 0 && x <= maxPrice) {
		return 0, false
	}
	quarters := x * 4
	ticks := int(quarters)
	if float64(ticks) != quarters {
		return 0, false
	}
	return ticks, true
}
