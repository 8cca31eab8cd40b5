package tests

import (
	"strings"
	"testing"

	"loop.example/g00463/impl"
)

// plainSum is the document's sentence, bit by bit, to hold the program against.
func plainSum(sum uint32, text string) uint32 {
	for i := 0; i < len(text); i++ {
		sum ^= uint32(text[i])
		for range 8 {
			odd := sum%2 == 1
			sum /= 2
			if odd {
				sum ^= 3558460437
			}
		}
	}
	return sum
}

// plainSeal takes texts of any length, also of those that Sealed refuses.
func plainSeal(text string) string {
	s := plainSum(4294967295, text)
	return text + string([]byte{byte(s / 16777216), byte(s / 65536), byte(s / 256), byte(s)})
}

func textsToSum() []string {
	texts := []string{"", "a", "abc", "\x00", "\x00\x00", "\xff\xff\xff\xff", "123456789", strings.Repeat("\x00", 300)}
	for b := range 256 {
		texts = append(texts, string([]byte{byte(b)}))
	}
	return append(texts, bytesOf(999), bytesOf(impl.MaxText), bytesOf(impl.MaxText+1), bytesOf(3*impl.MaxText))
}

func turned(text string, at int, by byte) string {
	out := []byte(text)
	out[at] ^= by
	return string(out)
}

func TestSumsOfKnownTexts(t *testing.T) {
	for _, known := range []struct {
		sum  uint32
		text string
		want uint32
	}{
		{0, "", 0},
		{4294967295, "", 4294967295},
		{0, "\x00", 0},
		// The bits go out lowest first: that of 64 one turn ahead of that of 128, so that its mark is turned once more.
		{0, "\x80", 3558460437},
		{0, "\x40", 3558460437/2 ^ 3558460437},
		{128, "\x00", 3558460437},
		{128, "\x80", 0},
		// Only the lowest eight bits go out over one byte.
		{256, "\x00", 1},
		{4294967040, "\x00", 16777215},
	} {
		if got := impl.SumMore(known.sum, known.text); got != known.want {
			t.Errorf("SumMore(%d, %q) = %d; want %d", known.sum, known.text, got, known.want)
		}
	}
	if got := impl.SumOf(""); got != 4294967295 {
		t.Errorf("SumOf nothing = %d", got)
	}
	if got, want := impl.SumOf("\x7f"), uint32(16777215^3558460437); got != want {
		t.Errorf("SumOf of the byte 127 = %d; want %d", got, want)
	}
	if got, want := impl.SumOf("\xff"), uint32(16777215); got != want {
		t.Errorf("SumOf of the byte 255 = %d; want %d", got, want)
	}
}

func TestSumsBitByBit(t *testing.T) {
	for _, text := range textsToSum() {
		if got, want := impl.SumOf(text), plainSum(4294967295, text); got != want {
			t.Errorf("SumOf of %d bytes %.20q = %d; want %d", len(text), text, got, want)
		}
		for _, sum := range []uint32{0, 1, 127, 128, 2147483648, 3558460437, 4294967294, 4294967295} {
			if got, want := impl.SumMore(sum, text), plainSum(sum, text); got != want {
				t.Errorf("SumMore of %d and %d bytes %.20q = %d; want %d", sum, len(text), text, got, want)
			}
		}
	}
}

func TestSumMoreGoesOn(t *testing.T) {
	text := bytesOf(700)
	whole := impl.SumOf(text)
	for at := 0; at <= len(text); at++ {
		if got := impl.SumMore(impl.SumOf(text[:at]), text[at:]); got != whole {
			t.Fatalf("parted at %d: %d; want %d", at, got, whole)
		}
	}
	sum := impl.SumOf("")
	for at := range text {
		sum = impl.SumMore(sum, text[at:at+1])
		if want := impl.SumOf(text[:at+1]); sum != want {
			t.Fatalf("byte by byte up to %d: %d; want %d", at, sum, want)
		}
	}
	for _, first := range []uint32{0, 4294967295} {
		for at := 0; at <= len(text); at += 7 {
			if got, want := impl.SumMore(impl.SumMore(first, text[:at]), text[at:]), impl.SumMore(first, text); got != want {
				t.Fatalf("from %d, parted at %d: %d; want %d", first, at, got, want)
			}
		}
	}
}

func TestSealedIsUnsealed(t *testing.T) {
	for _, text := range textsToSum() {
		if len(text) > impl.MaxText {
			continue
		}
		s, ok := impl.Sealed(text)
		if !ok || s != plainSeal(text) {
			t.Errorf("Sealed of %d bytes %.20q = %.30q, %v", len(text), text, s, ok)
		}
		if u, ok := impl.Unsealed(s); !ok || u != text {
			t.Errorf("Unsealed of the sealed %d bytes %.20q = %.20q, %v", len(text), text, u, ok)
		}
	}
}

func TestSealedBytes(t *testing.T) {
	for text, want := range map[string]string{
		"":     "\xff\xff\xff\xff",
		"\xff": "\xff\x00\xff\xff\xff",
		"\x7f": "\x7f\xd4\xe6\x33\xea",
	} {
		if s, ok := impl.Sealed(text); !ok || s != want {
			t.Errorf("Sealed(%q) = %q, %v; want %q", text, s, ok, want)
		}
		if u, ok := impl.Unsealed(want); !ok || u != text {
			t.Errorf("Unsealed(%q) = %q, %v; want %q", want, u, ok, text)
		}
	}
}

func TestSealedRefusesLongerTexts(t *testing.T) {
	for _, size := range []int{impl.MaxText + 1, impl.MaxText + 2, 2 * impl.MaxText} {
		text := bytesOf(size)
		if s, ok := impl.Sealed(text); ok || s != "" {
			t.Errorf("Sealed takes %d bytes", size)
		}
		if u, ok := impl.Unsealed(plainSeal(text)); ok || u != "" {
			t.Errorf("Unsealed takes %d bytes ahead of their sum", size)
		}
	}
	for _, size := range []int{impl.MaxText - 1, impl.MaxText} {
		text := bytesOf(size)
		if s, ok := impl.Sealed(text); !ok || s != plainSeal(text) {
			t.Errorf("Sealed refuses %d bytes", size)
		}
		if u, ok := impl.Unsealed(plainSeal(text)); !ok || u != text {
			t.Errorf("Unsealed refuses %d bytes ahead of their sum", size)
		}
	}
}

func refusesSeal(t *testing.T, text, what string) {
	t.Helper()
	if u, ok := impl.Unsealed(text); ok || u != "" {
		t.Errorf("Unsealed takes %s: %.20q, %v", what, u, ok)
	}
}

func TestUnsealedRefusesFewerThanFourBytes(t *testing.T) {
	for _, text := range []string{"", "\xff", "\xff\xff", "\xff\xff\xff", "a", "ab", "abc", "\x00\x00\x00"} {
		refusesSeal(t, text, "fewer than four bytes")
	}
	for _, text := range []string{"\x00\x00\x00\x00", "abcd", "\xff\xff\xff\xfe", "\x7f\xff\xff\xff"} {
		refusesSeal(t, text, "four bytes that are no sum of nothing")
	}
	if u, ok := impl.Unsealed("\xff\xff\xff\xff"); !ok || u != "" {
		t.Errorf("Unsealed of the sum of nothing = %q, %v", u, ok)
	}
}

func TestUnsealedTellsEachTurnedByte(t *testing.T) {
	for _, text := range []string{"", "a", "abc", "\x00\x00\x00\x00\x00", bytesOf(40)} {
		s, _ := impl.Sealed(text)
		for at := range len(s) {
			for by := 1; by < 256; by++ {
				refusesSeal(t, turned(s, at, byte(by)), "a byte turned")
			}
		}
	}
	s, _ := impl.Sealed(bytesOf(impl.MaxText))
	for _, at := range []int{0, 1, 2, 9999, impl.MaxText - 1, impl.MaxText, impl.MaxText + 1, impl.MaxText + 2, impl.MaxText + 3} {
		for bit := range 8 {
			refusesSeal(t, turned(s, at, 1<<bit), "a bit turned in a long text")
		}
	}
}

func TestUnsealedRefusesOtherLengthsAndOrders(t *testing.T) {
	for _, text := range []string{"abc", "123456789", bytesOf(300)} {
		s, _ := impl.Sealed(text)
		for cut := range len(s) {
			refusesSeal(t, s[:cut], "a sealed text cut short")
		}
		for b := range 256 {
			refusesSeal(t, s+string([]byte{byte(b)}), "a sealed text with a byte more")
			refusesSeal(t, string([]byte{byte(b)})+s, "a sealed text with a byte ahead")
		}
		sum := s[len(text):]
		for _, order := range [][4]int{{3, 2, 1, 0}, {1, 0, 2, 3}, {0, 1, 3, 2}, {2, 3, 0, 1}, {1, 2, 3, 0}} {
			other := ""
			for _, at := range order {
				other += sum[at : at+1]
			}
			if other != sum {
				refusesSeal(t, text+other, "the bytes of the sum in another order")
			}
		}
		refusesSeal(t, sum+text, "the sum ahead of the text")
	}
}
