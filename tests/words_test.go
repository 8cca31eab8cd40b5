package tests

import (
	"math"
	"slices"
	"strings"
	"testing"

	"loop.example/g00463/impl"
)

func TestLimitsOfWords(t *testing.T) {
	if impl.MaxText != 20000 || impl.MaxNumber != 1000000000 || impl.MaxWords != 600 || impl.MaxParts != 10 {
		t.Error("a limit is not the document's")
	}
}

func TestVarTextBytes(t *testing.T) {
	for n, want := range map[int]string{
		0:                  "\x00",
		1:                  "\x01",
		127:                "\x7f",
		128:                "\x80\x01",
		300:                "\xac\x02",
		16383:              "\xff\x7f",
		16384:              "\x80\x80\x01",
		impl.MaxNumber - 1: "\xff\x93\xeb\xdc\x03",
		impl.MaxNumber:     "\x80\x94\xeb\xdc\x03",
	} {
		if got, ok := impl.VarText(n); !ok || got != want {
			t.Errorf("VarText(%d) = %q, %v; want %q", n, got, ok, want)
		}
	}
}

func TestVarTextRefuses(t *testing.T) {
	for _, n := range []int{-1, -128, impl.MaxNumber + 1, math.MinInt, math.MaxInt} {
		if got, ok := impl.VarText(n); ok || got != "" {
			t.Errorf("VarText(%d) = %q, %v", n, got, ok)
		}
	}
}

func TestVarTextIsReadBack(t *testing.T) {
	numbers := []int{impl.MaxNumber - 1, impl.MaxNumber}
	for n := range 70000 {
		numbers = append(numbers, n)
	}
	for n := 70000; n < impl.MaxNumber; n += 99991 {
		numbers = append(numbers, n)
	}
	for n := 128; n < impl.MaxNumber; n *= 128 {
		numbers = append(numbers, n-1, n, n+1)
	}
	for _, n := range numbers {
		s, ok := impl.VarText(n)
		if !ok {
			t.Fatalf("VarText(%d) is refused", n)
		}
		for _, ahead := range []string{"", "\x80", "ab\xff"} {
			for _, behind := range []string{"", "\x00", "\x80\xff"} {
				got, end, ok := impl.ReadVar(ahead+s+behind, len(ahead))
				if !ok || got != n || end != len(ahead)+len(s) {
					t.Fatalf("ReadVar(%q, %d) = %d, %d, %v; want %d", ahead+s+behind, len(ahead), got, end, ok, n)
				}
			}
		}
	}
}

func TestReadVarRefuses(t *testing.T) {
	for _, c := range []struct {
		text string
		at   int
	}{
		{"", 0},
		{"", -1},
		{"", 1},
		{"\x05", -1},
		{"\x05", 1},
		{"\x05", 2},
		{"\x05", math.MinInt},
		{"\x05", math.MaxInt},
		{"\x80", 0},
		{"\xac\x82", 0},
		{"\x05\x80", 1},
		{"\x80\x94\xeb\xdc", 0},
		{"\x80\x00", 0},
		{"\xff\x00", 0},
		{"\xac\x82\x00", 0},
		{"\x80\x80\x00\x01", 0},
		{"\x80\x94\xeb\xdc\x83\x00", 0},
		{"\x81\x94\xeb\xdc\x03", 0},
		{"\x80\x94\xeb\xdc\x04", 0},
		{"\xff\xff\xff\xff\x7f", 0},
		{"\x80\x80\x80\x80\x80\x01", 0},
	} {
		if n, end, ok := impl.ReadVar(c.text, c.at); ok || n != 0 || end != 0 {
			t.Errorf("ReadVar(%q, %d) = %d, %d, %v", c.text, c.at, n, end, ok)
		}
	}
}

func TestReadVarOfManyBytes(t *testing.T) {
	for k := 5; k < 200; k++ {
		for _, last := range []string{"", "\x00", "\x01", "\x7f"} {
			for _, first := range []string{"\x80", "\x81", "\xff"} {
				text := first + strings.Repeat("\x80", k-1) + last
				if n, end, ok := impl.ReadVar(text, 0); ok || n != 0 || end != 0 {
					t.Fatalf("ReadVar(%q, 0) = %d, %d, %v", text, n, end, ok)
				}
			}
		}
	}
}

// Whatever ReadVar takes is what VarText writes, and it refuses nothing that VarText writes: of all short texts of some telling bytes.
func TestReadVarTakesVarTextAlone(t *testing.T) {
	texts := []string{""}
	for range 6 {
		var longer []string
		for _, s := range texts {
			for _, b := range []string{"\x00", "\x01", "\x03", "\x04", "\x7f", "\x80", "\xff"} {
				longer = append(longer, s+b)
			}
		}
		for _, s := range longer {
			n, end, ok := impl.ReadVar(s, 0)
			again, _ := impl.VarText(n)
			if ok && s[:end] != again {
				t.Fatalf("ReadVar(%q, 0) = %d, %d, true", s, n, end)
			}
			if !ok && startsWithVar(s) {
				t.Fatalf("ReadVar(%q, 0) is refused", s)
			}
		}
		texts = longer
	}
}

// startsWithVar works the number out of each beginning by itself, and asks VarText for its bytes.
func startsWithVar(s string) bool {
	n := 0
	for i := 0; i < len(s) && i < 5; i++ {
		n |= int(s[i]&127) << (7 * i)
		if written, ok := impl.VarText(n); ok && written == s[:i+1] {
			return true
		}
	}
	return false
}

func TestShortTextBytes(t *testing.T) {
	for s, want := range map[string]string{
		"":                       "\x00",
		"a":                      "\x01a",
		"\x80\x00\xff":           "\x03\x80\x00\xff",
		strings.Repeat("x", 127): "\x7f" + strings.Repeat("x", 127),
		strings.Repeat("x", 128): "\x80\x01" + strings.Repeat("x", 128),
	} {
		if got, ok := impl.ShortText(s); !ok || got != want {
			t.Errorf("ShortText(%q) = %q, %v", s, got, ok)
		}
	}
}

func TestShortTextIsReadBack(t *testing.T) {
	for _, size := range []int{0, 1, 2, 127, 128, 300, 16383, 16384, impl.MaxText - 1, impl.MaxText} {
		want := bytesOf(size)
		s, ok := impl.ShortText(want)
		if !ok {
			t.Fatalf("ShortText of %d bytes is refused", size)
		}
		for _, ahead := range []string{"", "\x80", "ab\xff"} {
			for _, behind := range []string{"", "\x00", "zz"} {
				got, end, ok := impl.ReadShort(ahead+s+behind, len(ahead))
				if !ok || got != want || end != len(ahead)+len(s) {
					t.Fatalf("ReadShort of %d bytes behind %q ends at %d, %v", size, ahead, end, ok)
				}
			}
		}
	}
}

func TestShortTextRefuses(t *testing.T) {
	for _, size := range []int{impl.MaxText + 1, 2 * impl.MaxText} {
		if got, ok := impl.ShortText(bytesOf(size)); ok || got != "" {
			t.Errorf("ShortText of %d bytes is taken", size)
		}
	}
}

func TestReadShortRefuses(t *testing.T) {
	overlong, _ := impl.VarText(impl.MaxText + 1)
	most, _ := impl.VarText(impl.MaxText)
	greatest, _ := impl.VarText(impl.MaxNumber)
	for _, c := range []struct {
		text string
		at   int
	}{
		{"", 0},
		{"\x01a", -1},
		{"\x01a", 2},
		{"\x01a", 3},
		{"\x01a", math.MinInt},
		{"\x01a", math.MaxInt},
		{"\x01", 0},
		{"\x02a", 0},
		{"\x01a\x01", 2},
		{"\x80", 0},
		{"\x80\x00", 0},
		{"\x81\x00a", 0},
		{greatest + "a", 0},
		{most + bytesOf(impl.MaxText-1), 0},
		{overlong + bytesOf(impl.MaxText+1), 0},
	} {
		if s, end, ok := impl.ReadShort(c.text, c.at); ok || s != "" || end != 0 {
			t.Errorf("ReadShort(%.20q, %d) = %.20q, %d, %v", c.text, c.at, s, end, ok)
		}
	}
}

func TestHexIsReadBack(t *testing.T) {
	for _, size := range []int{0, 1, 2, 256, impl.MaxText - 1, impl.MaxText} {
		want := bytesOf(size)
		h, ok := impl.Hex(want)
		if !ok || len(h) != 2*size {
			t.Fatalf("Hex of %d bytes: %d figures, %v", size, len(h), ok)
		}
		if got, ok := impl.Unhex(h); !ok || got != want {
			t.Errorf("Unhex of the Hex of %d bytes is another text, %v", size, ok)
		}
	}
	for s, want := range map[string]string{"": "", "\x00": "00", "\x1f\xa0": "1fa0", "az": "617a", "\xbc\xde\xff": "bcdeff"} {
		if got, ok := impl.Hex(s); !ok || got != want {
			t.Errorf("Hex(%q) = %q, %v", s, got, ok)
		}
	}
}

func TestHexRefuses(t *testing.T) {
	if got, ok := impl.Hex(bytesOf(impl.MaxText + 1)); ok || got != "" {
		t.Error("Hex of more than MaxText bytes is taken")
	}
	wrong := []string{"0", "000", "0g", "g0", "0G", "A0", "0F", "0x", " 0", "0 ", "-1", "+1", "0\x00", "/0", "0:", "`0", "é", "00zz", strings.Repeat("00", impl.MaxText+1), strings.Repeat("0", 2*impl.MaxText+1)}
	for _, s := range wrong {
		if got, ok := impl.Unhex(s); ok || got != "" {
			t.Errorf("Unhex(%.20q) = %q, %v", s, got, ok)
		}
	}
}

// Of all texts of two bytes Unhex takes those alone that Hex writes.
func TestUnhexTakesHexAlone(t *testing.T) {
	taken := 0
	for a := range 256 {
		for b := range 256 {
			s := string([]byte{byte(a), byte(b)})
			text, ok := impl.Unhex(s)
			if !ok {
				continue
			}
			taken++
			if again, _ := impl.Hex(text); again != s {
				t.Errorf("Unhex(%q) = %q", s, text)
			}
		}
	}
	if taken != 256 {
		t.Errorf("%d texts of two figures are taken", taken)
	}
}

func TestDecimalFigures(t *testing.T) {
	for n, want := range map[int]string{
		0:              "0",
		7:              "7",
		10:             "10",
		-1:             "-1",
		-10:            "-10",
		907:            "907",
		impl.MaxNumber: "1000000000",
		math.MaxInt:    "9223372036854775807",
		math.MinInt:    "-9223372036854775808",
	} {
		if got := impl.Decimal(n); got != want {
			t.Errorf("Decimal(%d) = %q", n, got)
		}
	}
}

func TestDecimalIsReadBack(t *testing.T) {
	numbers := []int{999999999, impl.MaxNumber}
	for n := range 12000 {
		numbers = append(numbers, n)
	}
	for n := 12000; n < impl.MaxNumber; n += 99991 {
		numbers = append(numbers, n)
	}
	for _, n := range numbers {
		if got, ok := impl.ReadDecimal(impl.Decimal(n)); !ok || got != n {
			t.Fatalf("ReadDecimal(%q) = %d, %v", impl.Decimal(n), got, ok)
		}
	}
}

func TestReadDecimalRefuses(t *testing.T) {
	wrong := []string{"", "-", "+", "-0", "-1", "+0", "+1", "00", "01", "007", "0000000000", "01000000000", " 1", "1 ", "1 2", "1a", "a", "f", "0x1", "1_0", "1.0", "1e3", "/", ":", "1\x00", "\x001", "١", "1000000001", "1000000009", "9999999999", "10000000000", "9223372036854775808", "18446744073709551616", "18446744073709551617", "-9223372036854775808", strings.Repeat("1", 400), strings.Repeat("0", 400)}
	for _, s := range wrong {
		if n, ok := impl.ReadDecimal(s); ok || n != 0 {
			t.Errorf("ReadDecimal(%q) = %d, %v", s, n, ok)
		}
	}
}

func TestPartsOfLines(t *testing.T) {
	blanks := strings.Repeat(" ", impl.MaxWords)
	long := strings.Repeat("w", impl.MaxWords)
	ten := []string{"a", "b", "c", "d", "e", "f", "g", "h", "i", "j"}
	for _, c := range []struct {
		line string
		want []string
	}{
		{"", nil},
		{" ", nil},
		{blanks, nil},
		{"a", []string{"a"}},
		{" tick  1 2 ", []string{"tick", "1", "2"}},
		{"   ~! # \"", []string{"~!", "#", "\""}},
		{long, []string{long}},
		{blanks[1:] + "z", []string{"z"}},
		{strings.Join(ten, " "), ten},
		{"  " + strings.Join(ten, "   ") + "  ", ten},
	} {
		got, ok := impl.PartsOf(c.line)
		if !ok || !slices.Equal(got, c.want) {
			t.Errorf("PartsOf(%.30q) = %.30q, %v", c.line, got, ok)
		}
	}
}

func TestPartsOfRefuses(t *testing.T) {
	for _, line := range []string{
		strings.Repeat(" ", impl.MaxWords+1),
		strings.Repeat("w", impl.MaxWords+1),
		"a b c d e f g h i j k",
		" a  b c d e f g h i j  k ",
	} {
		if got, ok := impl.PartsOf(line); ok || len(got) != 0 {
			t.Errorf("PartsOf(%.30q) = %q, %v", line, got, ok)
		}
	}
}

func TestPartsOfEachByte(t *testing.T) {
	for b := range 256 {
		for _, c := range [][2]string{{"", ""}, {"a", "b"}, {"a ", " b"}, {" ", "  "}} {
			line := c[0] + string([]byte{byte(b)}) + c[1]
			got, ok := impl.PartsOf(line)
			if want := b >= 32 && b <= 126; ok != want || !ok && len(got) != 0 {
				t.Errorf("PartsOf(%q) = %q, %v", line, got, ok)
			}
		}
	}
}

func TestPartsAreNewEachTime(t *testing.T) {
	line := "a b"
	first, _ := impl.PartsOf(line)
	first[0] = "z"
	if again, _ := impl.PartsOf(line); !slices.Equal(again, []string{"a", "b"}) {
		t.Errorf("PartsOf(%q) = %q behind a change of an earlier answer", line, again)
	}
}

// bytesOf has every byte in it, when it is long enough.
func bytesOf(size int) string {
	out := make([]byte, size)
	for i := range out {
		out[i] = byte(i*7 + i/256)
	}
	return string(out)
}
