package tests

import (
	"math"
	"strings"
	"testing"
	"unsafe"

	"loop.example/g00463/impl"
)

func rightFiles() []impl.File {
	var files []impl.File
	for _, size := range []int{0, 1, 2, 7, 300, impl.MaxFile - 1, impl.MaxFile} {
		text := bytesOf(size)
		for _, synced := range []int{0, 1, size / 2, size - 1, size} {
			if synced >= 0 && synced <= size {
				files = append(files, impl.File{Text: text, Synced: synced})
			}
		}
	}
	return files
}

func wrongFiles() []impl.File {
	over := bytesOf(impl.MaxFile + 1)
	return []impl.File{
		{Text: "", Synced: 1},
		{Text: "", Synced: -1},
		{Text: "", Synced: math.MaxInt},
		{Text: "", Synced: math.MinInt},
		{Text: "abc", Synced: -1},
		{Text: "abc", Synced: 4},
		{Text: "abc", Synced: math.MaxInt},
		{Text: "abc", Synced: math.MinInt},
		{Text: bytesOf(impl.MaxFile), Synced: -1},
		{Text: bytesOf(impl.MaxFile), Synced: impl.MaxFile + 1},
		{Text: over, Synced: 0},
		{Text: over, Synced: 5},
		{Text: over, Synced: impl.MaxFile},
		{Text: over, Synced: impl.MaxFile + 1},
		{Text: over, Synced: impl.MaxFile + 2},
		{Text: over, Synced: -1},
		{Text: bytesOf(3 * impl.MaxFile), Synced: 1},
	}
}

// keepsOf are keeps about the bytes that stand behind what was synced, and the outermost ints.
func keepsOf(f impl.File) []int {
	loose := len(f.Text) - f.Synced
	return []int{
		0, 1, loose / 2, loose - 1, loose, loose + 1,
		len(f.Text), len(f.Text) + 1, impl.MaxFile, impl.MaxFile + 1, math.MaxInt - 1, math.MaxInt,
		-1, -loose, -f.Synced, -impl.MaxFile, math.MinInt + 1, math.MinInt,
	}
}

func brief(f impl.File) string {
	return impl.Decimal(f.Synced) + " of " + impl.Decimal(len(f.Text)) + " bytes"
}

func wantFile(t *testing.T, what string, got, want impl.File) {
	t.Helper()
	if got != want {
		t.Errorf("%s: %s, %.20q; want %s, %.20q", what, brief(got), got.Text, brief(want), want.Text)
	}
}

func TestLimitOfFiles(t *testing.T) {
	if impl.MaxFile != 20000 {
		t.Errorf("MaxFile = %d", impl.MaxFile)
	}
}

func TestFileOk(t *testing.T) {
	for _, f := range rightFiles() {
		if !impl.FileOk(f) {
			t.Errorf("FileOk refuses %s", brief(f))
		}
	}
	for _, f := range wrongFiles() {
		if impl.FileOk(f) {
			t.Errorf("FileOk takes %s", brief(f))
		}
	}
}

func TestFileOfFewBytes(t *testing.T) {
	f, ok := impl.Appended(impl.File{Text: "ab\x00", Synced: 2}, "c\xffde")
	if !ok {
		t.Error("Appended refuses a right file")
	}
	wantFile(t, "appended", f, impl.File{Text: "ab\x00c\xffde", Synced: 2})
	wantFile(t, "synced", impl.SyncedFile(f), impl.File{Text: "ab\x00c\xffde", Synced: 7})
	for keep, want := range map[int]string{
		math.MinInt: "ab",
		-2:          "ab",
		-1:          "ab",
		0:           "ab",
		1:           "ab\x00",
		2:           "ab\x00c",
		4:           "ab\x00c\xffd",
		5:           "ab\x00c\xffde",
		6:           "ab\x00c\xffde",
		7:           "ab\x00c\xffde",
		math.MaxInt: "ab\x00c\xffde",
	} {
		wantFile(t, "crashed with "+impl.Decimal(keep), impl.Crashed(f, keep), impl.File{Text: want, Synced: len(want)})
	}
}

func TestFileOfNothing(t *testing.T) {
	nothing := impl.File{}
	if !impl.FileOk(nothing) {
		t.Error("the file of nothing is refused")
	}
	wantFile(t, "synced", impl.SyncedFile(nothing), nothing)
	for _, keep := range keepsOf(nothing) {
		wantFile(t, "crashed", impl.Crashed(nothing, keep), nothing)
	}
	f, ok := impl.Appended(nothing, "")
	if !ok {
		t.Error("nothing behind nothing is refused")
	}
	wantFile(t, "nothing appended", f, nothing)
	f, ok = impl.Appended(nothing, "abc")
	if !ok {
		t.Error("a text behind nothing is refused")
	}
	wantFile(t, "a text appended", f, impl.File{Text: "abc"})
	wantFile(t, "a text appended and lost", impl.Crashed(f, 0), nothing)
}

func TestAppendedStandsBehind(t *testing.T) {
	for _, f := range rightFiles() {
		room := impl.MaxFile - len(f.Text)
		for _, size := range []int{0, 1, room / 2, room - 1, room} {
			if size < 0 || size > room {
				continue
			}
			added := strings.Repeat("\xe7", size)
			got, ok := impl.Appended(f, added)
			if !ok {
				t.Errorf("Appended refuses %d bytes behind %s", size, brief(f))
			}
			wantFile(t, "appended", got, impl.File{Text: f.Text + added, Synced: f.Synced})
		}
	}
}

func TestAppendedRefusesWhatHasNoRoom(t *testing.T) {
	for _, f := range rightFiles() {
		room := impl.MaxFile - len(f.Text)
		for _, size := range []int{room + 1, room + 2, impl.MaxFile + 1, 3 * impl.MaxFile} {
			got, ok := impl.Appended(f, bytesOf(size))
			if ok {
				t.Errorf("Appended takes %d bytes behind %s", size, brief(f))
			}
			wantFile(t, "refused", got, f)
		}
	}
}

func TestSyncedFileIsAllSynced(t *testing.T) {
	for _, f := range rightFiles() {
		got := impl.SyncedFile(f)
		wantFile(t, "synced", got, impl.File{Text: f.Text, Synced: len(f.Text)})
		wantFile(t, "synced twice", impl.SyncedFile(got), got)
	}
}

func TestCrashedKeepsWhatWasSynced(t *testing.T) {
	for _, f := range rightFiles() {
		for _, keep := range keepsOf(f) {
			end := f.Synced
			for n := 0; n < keep && end < len(f.Text); n++ {
				end++
			}
			got := impl.Crashed(f, keep)
			if !impl.FileOk(got) {
				t.Errorf("%s, crashed with %d, is not right", brief(f), keep)
			}
			wantFile(t, brief(f)+" crashed with "+impl.Decimal(keep), got, impl.File{Text: f.Text[:end], Synced: end})
			wantFile(t, "crashed again", impl.Crashed(got, 0), got)
		}
	}
}

// Whatever comes between, what a file was when it was synced is the beginning of what it is after any fall.
func TestSyncedStaysOverManyFalls(t *testing.T) {
	for seed := range 200 {
		var f impl.File
		stays, draw := "", uint32(seed+1)
		for range 60 {
			draw = draw*1664525 + 1013904223
			size := int((draw >> 16) % 400)
			switch draw >> 30 {
			case 0, 1:
				f, _ = impl.Appended(f, bytesOf(size))
			case 2:
				f = impl.SyncedFile(f)
				stays = f.Text
			case 3:
				f = impl.Crashed(f, size-100)
				if !strings.HasPrefix(f.Text, stays) {
					t.Fatalf("of life %d some of %d synced bytes are lost", seed, len(stays))
				}
				stays = f.Text
			}
			if !impl.FileOk(f) || f.Synced != len(stays) || !strings.HasPrefix(f.Text, stays) {
				t.Fatalf("of life %d: %s; synced were %d", seed, brief(f), len(stays))
			}
		}
	}
}

func TestWrongFilesStayAsTheyAre(t *testing.T) {
	for _, f := range wrongFiles() {
		for _, added := range []string{"", "a", bytesOf(impl.MaxFile), bytesOf(impl.MaxFile + 1)} {
			got, ok := impl.Appended(f, added)
			if ok {
				t.Errorf("Appended takes %s", brief(f))
			}
			wantFile(t, "appended to", got, f)
		}
		wantFile(t, "synced", impl.SyncedFile(f), f)
		for _, keep := range keepsOf(f) {
			wantFile(t, "crashed", impl.Crashed(f, keep), f)
		}
	}
}

func sharesMemory(a, b string) bool {
	if a == "" || b == "" {
		return false
	}
	from, other := uintptr(unsafe.Pointer(unsafe.StringData(a))), uintptr(unsafe.Pointer(unsafe.StringData(b)))
	return from < other+uintptr(len(b)) && other < from+uintptr(len(a))
}

func TestFilesAreNewMemory(t *testing.T) {
	added := bytesOf(5)
	for _, f := range append(rightFiles(), wrongFiles()...) {
		got, _ := impl.Appended(f, added)
		same, _ := impl.Appended(f, "")
		for _, text := range []string{got.Text, same.Text, impl.SyncedFile(f).Text, impl.Crashed(f, 1).Text, impl.Crashed(f, math.MaxInt).Text} {
			if sharesMemory(text, f.Text) || sharesMemory(text, added) {
				t.Errorf("of %s an answer shares memory with an argument", brief(f))
			}
		}
	}
}
