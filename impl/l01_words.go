package impl

import (
	"strconv"
	"strings"
)

const (
	MaxText   = 20000
	MaxNumber = 1000000000
	MaxWords  = 600
	MaxParts  = 10
)

// How long MaxNumber is in bytes and in figures: nothing longer can be a number, so that reading stops ahead of any overflow.
const (
	longestVar     = 5
	longestDecimal = 10
)

const figures = "0123456789abcdef"

func VarText(n int) (string, bool) {
	if n < 0 || n > MaxNumber {
		return "", false
	}
	out := make([]byte, 0, longestVar)
	for n > 127 {
		out = append(out, byte(n%128+128))
		n /= 128
	}
	return string(append(out, byte(n))), true
}

func ReadVar(text string, at int) (int, int, bool) {
	if at < 0 || at > len(text) {
		return 0, 0, false
	}
	n, scale := 0, 1
	for i := at; i < len(text) && i-at < longestVar; i++ {
		b := int(text[i])
		n += b % 128 * scale
		scale *= 128
		if b > 127 {
			continue
		}
		// A nought behind other bytes adds nothing: VarText would have stopped ahead of it.
		longer := b == 0 && i > at
		if longer || n > MaxNumber {
			return 0, 0, false
		}
		return n, i + 1, true
	}
	return 0, 0, false
}

func ShortText(s string) (string, bool) {
	if len(s) > MaxText {
		return "", false
	}
	size, ok := VarText(len(s))
	return size + s, ok
}

func ReadShort(text string, at int) (string, int, bool) {
	size, from, ok := ReadVar(text, at)
	if !ok || size > MaxText || size > len(text)-from {
		return "", 0, false
	}
	end := from + size
	return strings.Clone(text[from:end]), end, true
}

func Hex(text string) (string, bool) {
	if len(text) > MaxText {
		return "", false
	}
	out := make([]byte, 0, 2*len(text))
	for i := 0; i < len(text); i++ {
		out = append(out, figures[text[i]/16], figures[text[i]%16])
	}
	return string(out), true
}

func Unhex(text string) (string, bool) {
	if len(text) > 2*MaxText || len(text)%2 != 0 {
		return "", false
	}
	values, ok := valuesOf(text, 16)
	if !ok {
		return "", false
	}
	out := make([]byte, 0, len(values)/2)
	for i := 0; i < len(values); i += 2 {
		out = append(out, byte(values[i]*16+values[i+1]))
	}
	return string(out), true
}

func Decimal(n int) string {
	return strconv.Itoa(n)
}

func ReadDecimal(text string) (int, bool) {
	if text == "" || len(text) > longestDecimal {
		return 0, false
	}
	if text[0] == '0' && len(text) > 1 {
		return 0, false
	}
	values, ok := valuesOf(text, 10)
	if !ok {
		return 0, false
	}
	n := 0
	for _, v := range values {
		n = n*10 + v
	}
	if n > MaxNumber {
		return 0, false
	}
	return n, true
}

// valuesOf serves both kinds of figures, so that what is no figure is refused in one place.
func valuesOf(text string, base int) ([]int, bool) {
	values := make([]int, 0, len(text))
eachByte:
	for i := 0; i < len(text); i++ {
		for v := range base {
			if text[i] == figures[v] {
				values = append(values, v)
				continue eachByte
			}
		}
		return nil, false
	}
	return values, true
}

func PartsOf(line string) ([]string, bool) {
	if len(line) > MaxWords || !isPlain(line) {
		return nil, false
	}
	// Of a plain line the blank is the only byte that Fields parts at.
	parts := strings.Fields(line)
	if len(parts) > MaxParts {
		return nil, false
	}
	for i, part := range parts {
		parts[i] = strings.Clone(part)
	}
	return parts, true
}

func isPlain(line string) bool {
	for i := 0; i < len(line); i++ {
		if line[i] < 32 || line[i] > 126 {
			return false
		}
	}
	return true
}
