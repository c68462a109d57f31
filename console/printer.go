package console

import (
	"strconv"
	"strings"

	"soundpost/api"
)

const (
	indent = " "
	hex    = "0123456789abcdef"
)

type printer struct{ strings.Builder }

// line prints words, numbers, digests, and yes and no.
func (p *printer) line(parts ...any) {
	l := []string{indent}
	for _, x := range parts {
		switch v := x.(type) {
		case string:
			l = append(l, v)
		case int:
			l = append(l, strconv.Itoa(v))
		case []int:
			for _, n := range v {
				l = append(l, strconv.Itoa(n))
			}
		case bool:
			l = append(l, digit(v))
		case api.Digest:
			l = append(l, digestWord(v))
		}
	}
	p.WriteString(strings.Join(l, space) + "\n")
}

func digit(yes bool) string {
	if yes {
		return "1"
	}
	return "0"
}

func digestWord(d api.Digest) string {
	b := make([]byte, 0, 2*len(d))
	for _, x := range d {
		b = append(b, hex[x>>4], hex[x&15])
	}
	return string(b)
}
