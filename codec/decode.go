package codec

import "soundpost/api"

// reader holds what remains to be read.
type reader struct{ rest []byte }

// wrong is what a reader panics with.
type wrong struct{}

// Decode returns the value of an encoding.
func Decode(b []byte) (v api.Value, e api.Errno) {
	defer func() {
		if recover() != nil {
			v, e = api.Value{}, api.ErrCode
		}
	}()
	r := &reader{b[:len(b):len(b)]}
	v = r.value(0)
	if len(r.rest) > 0 {
		panic(wrong{})
	}
	return v, api.OK
}

// take returns the next n bytes.
func (r *reader) take(n int) []byte {
	if n > len(r.rest) {
		panic(wrong{})
	}
	head := r.rest[:n:n]
	r.rest = r.rest[n:len(r.rest):len(r.rest)]
	return head
}

// numeral reads a numeral of a number with 64 bits; a superfluous digit would give a number two numerals.
func (r *reader) numeral() uint64 {
	var u uint64
	for shift := 0; ; shift += 7 {
		d := r.take(1)[0]
		if shift == 63 && d > 1 || shift > 0 && d == 0 {
			panic(wrong{})
		}
		u |= uint64(d&127) << shift
		if d < 128 {
			return u
		}
	}
}

// count reads a number of items of at least least bytes each, which must be there.
func (r *reader) count(least int) int {
	u := r.numeral()
	if u > uint64(len(r.rest)/least) {
		panic(wrong{})
	}
	return int(u)
}

func (r *reader) value(depth int) api.Value {
	k := int(r.take(1)[0])
	if !known(k) {
		panic(wrong{})
	}
	return kinds()[k].read(r, depth)
}

func readInt(r *reader, depth int) api.Value {
	return api.Value{Kind: api.IntV, N: signed(r.numeral())}
}

func readText(r *reader, depth int) api.Value {
	return api.Value{Kind: api.TextV, S: string(r.take(r.count(1)))}
}

func readList(r *reader, depth int) api.Value {
	if depth == api.MaxDepth {
		panic(wrong{})
	}
	v := api.Value{Kind: api.ListV, L: make([]api.Value, r.count(2))}
	for i := range v.L {
		v.L[i] = r.value(depth + 1)
	}
	return v
}
