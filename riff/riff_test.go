package riff

import (
	"encoding/binary"
	"slices"
	"strings"
	"sync"
	"testing"
	"unsafe"

	"descant/api"
)

const (
	// mostBytes is how many a file may have, mostChunks how many chunks.
	mostBytes  = 4096
	mostChunks = 64
)

// told are files, and their chunks, worked out by hand.
var told = []struct {
	s    string
	want []api.Chunk
}{
	// No chunk.
	{"RIFF\x04\x00\x00\x00WAVE", nil},
	// One, even and odd.
	{"RIFF\x0c\x00\x00\x00WAVEdata\x00\x00\x00\x00", []api.Chunk{it("data", 20, 0)}},
	{"RIFF\x0e\x00\x00\x00WAVEdata\x01\x00\x00\x00a\x00", []api.Chunk{it("data", 20, 1)}},
	{"RIFF\x0e\x00\x00\x00WAVEdata\x02\x00\x00\x00ab", []api.Chunk{it("data", 20, 2)}},
	{"RIFF\x10\x00\x00\x00WAVEdata\x03\x00\x00\x00abc\x00", []api.Chunk{it("data", 20, 3)}},
	{"RIFF\x10\x00\x00\x00WAVEdata\x04\x00\x00\x00abcd", []api.Chunk{it("data", 20, 4)}},
	{"RIFF\x1c\x00\x00\x00WAVEfmt \x10\x00\x00\x00\x01\x00\x02\x00rateRATE\x04\x00\x10\x00", []api.Chunk{it("fmt ", 20, 16)}},
	// A few.
	{"RIFF\x18\x00\x00\x00WAVEone \x02\x00\x00\x00abtwo \x02\x00\x00\x00cd", []api.Chunk{it("one ", 20, 2), it("two ", 30, 2)}},
	{"RIFF\x26\x00\x00\x00WAVEfmt \x04\x00\x00\x00abcddata\x05\x00\x00\x00efghi\x00LIST\x00\x00\x00\x00",
		[]api.Chunk{it("fmt ", 20, 4), it("data", 32, 5), it("LIST", 46, 0)}},
	// One of no bytes first, between others, last, each time.
	{"RIFF\x16\x00\x00\x00WAVEnone\x00\x00\x00\x00some\x02\x00\x00\x00ab", []api.Chunk{it("none", 20, 0), it("some", 28, 2)}},
	{"RIFF\x20\x00\x00\x00WAVEsome\x02\x00\x00\x00abnone\x00\x00\x00\x00more\x02\x00\x00\x00cd",
		[]api.Chunk{it("some", 20, 2), it("none", 30, 0), it("more", 38, 2)}},
	{"RIFF\x16\x00\x00\x00WAVEsome\x02\x00\x00\x00abnone\x00\x00\x00\x00", []api.Chunk{it("some", 20, 2), it("none", 30, 0)}},
	{"RIFF\x1c\x00\x00\x00WAVEnone\x00\x00\x00\x00none\x00\x00\x00\x00none\x00\x00\x00\x00",
		[]api.Chunk{it("none", 20, 0), it("none", 28, 0), it("none", 36, 0)}},
	// An odd one first, between others, last, each time; the byte behind it 0 and not 0.
	{"RIFF\x18\x00\x00\x00WAVEodd \x01\x00\x00\x00a\x00even\x02\x00\x00\x00bc", []api.Chunk{it("odd ", 20, 1), it("even", 30, 2)}},
	{"RIFF\x18\x00\x00\x00WAVEodd \x01\x00\x00\x00axeven\x02\x00\x00\x00bc", []api.Chunk{it("odd ", 20, 1), it("even", 30, 2)}},
	{"RIFF\x24\x00\x00\x00WAVEeven\x02\x00\x00\x00abodd \x03\x00\x00\x00cde\xffmore\x02\x00\x00\x00fg",
		[]api.Chunk{it("even", 20, 2), it("odd ", 30, 3), it("more", 42, 2)}},
	{"RIFF\x18\x00\x00\x00WAVEeven\x02\x00\x00\x00abodd \x01\x00\x00\x00c\x80", []api.Chunk{it("even", 20, 2), it("odd ", 30, 1)}},
	{"RIFF\x24\x00\x00\x00WAVEodd \x01\x00\x00\x00a\x00odd \x03\x00\x00\x00bcdxodd \x01\x00\x00\x00e\x01",
		[]api.Chunk{it("odd ", 20, 1), it("odd ", 30, 3), it("odd ", 42, 1)}},
	// An odd one and one of no bytes side by side.
	{"RIFF\x16\x00\x00\x00WAVEodd \x01\x00\x00\x00a\x00none\x00\x00\x00\x00", []api.Chunk{it("odd ", 20, 1), it("none", 30, 0)}},
	{"RIFF\x16\x00\x00\x00WAVEnone\x00\x00\x00\x00odd \x01\x00\x00\x00a\x00", []api.Chunk{it("none", 20, 0), it("odd ", 28, 1)}},
	// Names of any bytes, and the same twice.
	{"RIFF\x24\x00\x00\x00WAVE\x00\x00\x00\x00\x00\x00\x00\x00\xff\xfe\x80\x7f\x00\x00\x00\x00RIFF\x00\x00\x00\x00WAVE\x00\x00\x00\x00",
		[]api.Chunk{it("\x00\x00\x00\x00", 20, 0), it("\xff\xfe\x80\x7f", 28, 0), it("RIFF", 36, 0), it("WAVE", 44, 0)}},
	{"RIFF\x18\x00\x00\x00WAVEdata\x02\x00\x00\x00abdata\x02\x00\x00\x00ab", []api.Chunk{it("data", 20, 2), it("data", 30, 2)}},
	{"RIFF\x0e\x00\x00\x00WAVE\xe2\x82\xac\xc3\x02\x00\x00\x00\xa9a", []api.Chunk{it("\xe2\x82\xac\xc3", 20, 2)}},
	{"RIFF\x0e\x00\x00\x00WAVE\x02\x00\x00\x00\x02\x00\x00\x00\x02\x00", []api.Chunk{it("\x02\x00\x00\x00", 20, 2)}},
	// Bytes that look like a chunk, like RIFF, like WAVE, are a chunk's own.
	{"RIFF\x1c\x00\x00\x00WAVElong\x10\x00\x00\x00data\x08\x00\x00\x00data\x00\x00\x00\x00", []api.Chunk{it("long", 20, 16)}},
	{"RIFF\x18\x00\x00\x00WAVElong\x0c\x00\x00\x00RIFF\x04\x00\x00\x00WAVE", []api.Chunk{it("long", 20, 12)}},
	{"RIFF\x18\x00\x00\x00WAVERIFF\x04\x00\x00\x00WAVEWAVE\x00\x00\x00\x00", []api.Chunk{it("RIFF", 20, 4), it("WAVE", 32, 0)}},
	{"RIFF\x18\x00\x00\x00WAVERIFF\x0c\x00\x00\x00WAVERIFF\x00\x00\x00\x00", []api.Chunk{it("RIFF", 20, 12)}},
	{"RIFF\x16\x00\x00\x00WAVEodd \x09\x00\x00\x00data\x02\x00\x00\x00xy", []api.Chunk{it("odd ", 20, 9)}},
}

// it is a chunk by its name, where its bytes begin, how many there are.
func it(id string, at int, size int) api.Chunk {
	return api.Chunk{Id: id, At: at, Size: size}
}

// numbered is a row of numbers, the same each time.
type numbered uint64

func (n *numbered) next(below int) int {
	*n = *n*6364136223846793005 + 1442695040888963407
	return int(uint64(*n) >> 33 % uint64(below))
}

func (n *numbered) text(many int) string {
	bs := make([]byte, many)
	for i := range bs {
		bs[i] = byte(n.next(256))
	}
	return string(bs)
}

// some is a few chunks of all kinds, each with its bytes.
func (n *numbered) some(most int) []string {
	var cs []string
	for range n.next(most + 1) {
		id := []string{"fmt ", "data", "LIST", "RIFF", "WAVE", n.text(4)}[n.next(6)]
		cs = append(cs, chunk(id, n.text(n.next(20)), byte(n.next(256))))
	}
	return cs
}

// inFour is x in four bytes, the lowest first.
func inFour(x int) string {
	return string(binary.LittleEndian.AppendUint32(nil, uint32(x)))
}

// chunk is one with such bytes, and with one more behind odd ones.
func chunk(id string, own string, more byte) string {
	s := id + inFour(len(own)) + own
	if len(own)%2 == 1 {
		s += string([]byte{more})
	}
	return s
}

// wave is a file of what is behind its first twelve bytes.
func wave(behind ...string) string {
	all := strings.Join(behind, "")
	return "RIFF" + inFour(4+len(all)) + "WAVE" + all
}

// byWords is what the chapter's words say: whether s is a file, and its chunks.
func byWords(s string) ([]api.Chunk, bool) {
	if len(s) > mostBytes || len(s) < 12 || s[:4] != "RIFF" || s[4:8] != inFour(len(s)-8) || s[8:12] != "WAVE" {
		return nil, false
	}
	cs := []api.Chunk{}
	for rest := s[12:]; rest != ""; {
		if len(rest) < 8 || len(cs) == mostChunks {
			return nil, false
		}
		size := uint64(binary.LittleEndian.Uint32([]byte(rest[4:8])))
		takes := 8 + size
		if size%2 == 1 {
			takes++
		}
		if takes > uint64(len(rest)) {
			return nil, false
		}
		cs = append(cs, it(rest[:4], len(s)-len(rest)+8, int(size)))
		rest = rest[takes:]
	}
	return cs, true
}

// isAsWords holds Chunks to the chapter's words, whatever s is.
func isAsWords(t *testing.T, s string) {
	t.Helper()
	if want, may := byWords(s); may {
		areTold(t, s, want)
	} else {
		isRefused(t, s)
	}
}

func areTold(t *testing.T, s string, want []api.Chunk) {
	t.Helper()
	if got, e := Chunks(s); !slices.Equal(got, want) || e != api.OK {
		t.Errorf("P20.1: of %d bytes %.120q: %v, %d; want %v", len(s), s, got, e, want)
	}
}

func isRefused(t *testing.T, s string) {
	t.Helper()
	if got, e := Chunks(s); len(got) != 0 || e != api.ErrRiffForm {
		t.Errorf("P20.1: of %d bytes %.120q: %v, %d; want ErrRiffForm", len(s), s, got, e)
	}
}

// with is s with other bytes from at on.
func with(s string, at int, other string) string {
	return s[:at] + other + s[at+len(other):]
}

func TestChunksWorkedOutByHand(t *testing.T) {
	for _, c := range told {
		areTold(t, c.s, c.want)
	}
}

// Chunks of each size that may be, alone and ahead of another one; those whose size has a lowest byte of 0 are among them.
func TestEachSize(t *testing.T) {
	for size := 0; size <= 4076; size++ {
		s := wave(chunk("size", strings.Repeat("s", size), 'p'))
		areTold(t, s, []api.Chunk{it("size", 20, size)})
		if size > 4068 {
			continue
		}
		behind := size + size%2
		s = wave(chunk("size", strings.Repeat("\x00", size), 0), chunk("none", "", 0))
		areTold(t, s, []api.Chunk{it("size", 20, size), it("none", 28+behind, 0)})
	}
	for _, size := range []int{256, 512, 1024, 2048, 3840} {
		s := "RIFF" + string([]byte{22, byte(size >> 8), 0, 0}) + "WAVEsize" + string([]byte{0, byte(size >> 8), 0, 0}) +
			strings.Repeat("\x00", size) + "last\x02\x00\x00\x00ab"
		areTold(t, s, []api.Chunk{it("size", 20, size), it("last", 28+size, 2)})
	}
	// The whole has a size whose lowest byte is 0.
	for _, size := range []int{244, 500, 1012, 3828} {
		s := "RIFF" + string([]byte{0, byte((size + 12) >> 8), 0, 0}) + "WAVEsize" + inFour(size) + strings.Repeat("z", size)
		areTold(t, s, []api.Chunk{it("size", 20, size)})
	}
}

func TestEachByteBehindAnOddChunk(t *testing.T) {
	for b := range 256 {
		odd := chunk("odd ", "abc", byte(b))
		areTold(t, wave(odd), []api.Chunk{it("odd ", 20, 3)})
		areTold(t, wave(odd, odd), []api.Chunk{it("odd ", 20, 3), it("odd ", 32, 3)})
		areTold(t, wave(odd, "next\x00\x00\x00\x00"), []api.Chunk{it("odd ", 20, 3), it("next", 32, 0)})
		areTold(t, wave("next\x00\x00\x00\x00", odd), []api.Chunk{it("next", 20, 0), it("odd ", 28, 3)})
	}
}

func TestEachByteOfAName(t *testing.T) {
	for b := range 256 {
		for at := range 4 {
			id := with("data", at, string([]byte{byte(b)}))
			areTold(t, wave(chunk(id, "xyz", 0), chunk(id, "", 0)), []api.Chunk{it(id, 20, 3), it(id, 32, 0)})
		}
	}
}

func TestFilesOfAllKinds(t *testing.T) {
	n := numbered(1)
	for range 5000 {
		cs := n.some(9)
		s := wave(cs...)
		var want []api.Chunk
		at := 12
		for _, c := range cs {
			size := int(c[4]) + int(c[5])*256
			want = append(want, it(c[:4], at+8, size))
			at += len(c)
		}
		areTold(t, s, want)
		isAsWords(t, s)
	}
}

// Texts that begin right, with few and low bytes behind, so that many of them are files.
func TestTextsOfAllKinds(t *testing.T) {
	n := numbered(2)
	files := 0
	for range 300000 {
		bs := make([]byte, 2*n.next(14))
		for i := range bs {
			bs[i] = byte(max(0, n.next(40)-30))
		}
		s := wave(string(bs))
		isAsWords(t, s)
		if _, may := byWords(s); may {
			files++
		}
	}
	if files < 10000 || files > 290000 {
		t.Errorf("%d of them are files", files)
	}
}

func TestAsManyChunksAsMayBe(t *testing.T) {
	for many := range mostChunks + 1 {
		for size := range 6 {
			var want []api.Chunk
			for i := range many {
				want = append(want, it("many", 20+i*(8+size+size%2), size))
			}
			areTold(t, wave(slices.Repeat([]string{chunk("many", "bytes"[:size], 1)}, many)...), want)
		}
	}
	// 64 chunks in as many bytes as may be.
	full := slices.Repeat([]string{chunk("full", strings.Repeat("f", 55), 'p')}, 63)
	s := wave(append(full, chunk("last", strings.Repeat("l", 44), 0))...)
	if got, e := Chunks(s); len(s) != mostBytes || len(got) != mostChunks || got[63] != it("last", 4052, 44) || e != api.OK {
		t.Errorf("P20.1: of %d bytes: %v, %d", len(s), got, e)
	}
}

func TestTooManyChunks(t *testing.T) {
	none, some, odd := chunk("none", "", 0), chunk("some", "ab", 0), chunk("odd ", "abc", 'p')
	for _, more := range []int{1, 2, 3, 64, 192, 200} {
		for _, c := range []string{none, some, odd} {
			isRefused(t, wave(slices.Repeat([]string{c}, mostChunks+more)...))
		}
	}
	// One more of another kind, first or last; without it all may be.
	for _, c := range []string{none, some, odd} {
		for _, other := range []string{none, some, odd} {
			row := slices.Repeat([]string{c}, mostChunks)
			isAsWords(t, wave(row...))
			isRefused(t, wave(append(slices.Clone(row), other)...))
			isRefused(t, wave(append([]string{other}, row...)...))
			if got, e := Chunks(wave(append(row[1:], other)...)); len(got) != mostChunks || e != api.OK {
				t.Errorf("P20.1: of %d chunks: %v, %d", mostChunks, got, e)
			}
		}
	}
	// A piece of one more.
	row := strings.Repeat(none, mostChunks)
	for many := 1; many < len(odd); many++ {
		isRefused(t, wave(row, odd[:many]))
	}
}

func TestAsManyBytesAsMayBe(t *testing.T) {
	for _, size := range []int{4073, 4074, 4075, 4076} {
		s := wave(chunk("long", strings.Repeat("x", size), 'p'))
		if len(s) > mostBytes || len(s) < mostBytes-2 {
			t.Fatalf("%d bytes", len(s))
		}
		areTold(t, s, []api.Chunk{it("long", 20, size)})
	}
	s := wave(chunk("long", strings.Repeat("x", 4067), 'p'), chunk("last", "", 0))
	areTold(t, s, []api.Chunk{it("long", 20, 4067), it("last", 4096, 0)})
}

func TestTooManyBytes(t *testing.T) {
	for size := 4077; size < 4400; size++ {
		s := wave(chunk("long", strings.Repeat("x", size), 'p'))
		isRefused(t, s)
		isRefused(t, wave(chunk("some", "abc", 0), chunk("long", strings.Repeat("x", size-12), 'p')))
		isRefused(t, wave(chunk("long", strings.Repeat("x", size-8), 'p'), chunk("none", "", 0)))
	}
	for _, size := range []int{8192, 32768, 65535, 65536, 65536 + 64, 1 << 20} {
		isRefused(t, wave(chunk("long", strings.Repeat("x", size), 'p')))
	}
	// One byte more than may be is none of a chunk, or the last one is odd without its one more byte.
	full := wave(chunk("long", strings.Repeat("x", 4076), 0))
	for _, s := range []string{full + "x", with(full+"x", 4, inFour(4089)), with(with(full+"x", 4, inFour(4089)), 16, inFour(4077)),
		with(full+"x", 16, inFour(4077)), full + "xx", full + "none\x00\x00\x00\x00"} {
		isRefused(t, s)
	}
	isRefused(t, strings.Repeat("RIFF", 2000))
	isRefused(t, strings.Repeat("\x00", mostBytes+1))
}

// Each text of fewer than twelve bytes is refused, and each beginning of a file but the file itself.
func TestTextsThatAreCutShort(t *testing.T) {
	isRefused(t, "")
	n := numbered(3)
	for many := range 12 {
		for told := range 16 {
			isRefused(t, ("RIFF" + inFour(told) + "WAVE")[:many])
		}
		isRefused(t, strings.Repeat("\x00", many))
		isRefused(t, strings.Repeat("R", many))
		isRefused(t, n.text(many))
	}
	for _, c := range told {
		for many := range len(c.s) {
			isRefused(t, c.s[:many])
		}
	}
}

func TestOtherFirstBytes(t *testing.T) {
	for _, c := range told {
		for at := range 12 {
			for b := range 256 {
				if byte(b) != c.s[at] {
					isRefused(t, with(c.s, at, string([]byte{byte(b)})))
				}
			}
		}
	}
}

func TestOtherNames(t *testing.T) {
	for _, c := range told {
		for _, name := range []string{"riff", "Riff", "RIFf", "rIFF", "RIfF", "RIFX", "RF64", "FFIR", "WAVE", "FORM", "RIF ", " RIF", "\x00\x00\x00\x00"} {
			isRefused(t, with(c.s, 0, name))
			isRefused(t, with(with(c.s, 0, name), 8, "RIFF"))
		}
		for _, name := range []string{"wave", "Wave", "WAVe", "wAVE", "WAvE", "AVI ", "EVAW", "RIFF", "WAV ", " WAV", "\x00\x00\x00\x00"} {
			isRefused(t, with(c.s, 8, name))
		}
		// No WAVE, and how many there are told without it.
		behind := c.s[12:]
		isRefused(t, "RIFF"+inFour(len(behind))+behind)
		isRefused(t, "RIFF"+inFour(len(behind)+4)+behind)
		isRefused(t, "WAVE"+inFour(len(behind)+4)+"RIFF"+behind)
		isRefused(t, "WAVE"+behind)
		isAsWords(t, behind)
		// Something ahead of it all.
		isRefused(t, "\x00"+c.s)
		isRefused(t, c.s+c.s)
	}
}

// What is told of the whole is more or less than there is, in each of its four bytes.
func TestOtherSizesOfAll(t *testing.T) {
	for _, c := range told {
		is := len(c.s) - 8
		for _, many := range []int{0, 4, is - 4, is - 8, is - 2, is - 1, is + 1, is + 2, is + 4, is + 8, is + 12, 2 * is, is + 1<<8, is + 1<<16, is + 1<<24,
			is + 1<<31, is << 8, is << 16, is << 24, 4096, 4088, 65536, 1 << 24, 1 << 31, 1<<31 - 1, 1<<32 - 1, 1<<32 - is, 1<<32 - 8} {
			if many&(1<<32-1) != is {
				isRefused(t, with(c.s, 4, inFour(many)))
			}
		}
		for many := range 600 {
			if many != is {
				isRefused(t, with(c.s, 4, inFour(many)))
			}
		}
		// The highest byte first.
		isRefused(t, with(c.s, 4, string(binary.BigEndian.AppendUint32(nil, uint32(is)))))
	}
}

// Bytes more or fewer behind, told as they are and as they were.
func TestMoreOrFewerBytesBehind(t *testing.T) {
	n := numbered(4)
	for _, c := range told {
		for _, more := range []string{"x", "\x00", "\x00\x00", "xyz", "data", "data\x00", "data\x00\x00", "data\x00\x00\x00"} {
			isRefused(t, c.s+more)
			isRefused(t, wave(c.s[12:], more))
		}
		// Of another chunk behind, the whole must tell.
		isRefused(t, c.s+"more\x00\x00\x00\x00")
		isAsWords(t, wave(c.s[12:], "more\x00\x00\x00\x00"))
		for range 50 {
			more := n.text(1 + n.next(7))
			isRefused(t, c.s+more)
			isRefused(t, wave(c.s[12:], more))
		}
		for fewer := 1; fewer <= len(c.s)-12; fewer++ {
			isRefused(t, c.s[:len(c.s)-fewer])
			isAsWords(t, wave(c.s[12:len(c.s)-fewer]))
		}
	}
}

// A chunk's name or size or bytes are cut, at each byte, and the whole tells of what is there.
func TestChunksThatAreCut(t *testing.T) {
	for _, ahead := range []string{"", chunk("none", "", 0), chunk("some", "ab", 0), chunk("odd ", "a", 0)} {
		for _, own := range []string{"", "a", "ab", "abc", "abcdefghi", strings.Repeat("x", 256), strings.Repeat("x", 511)} {
			c := chunk("last", own, 'p')
			for many := 1; many < len(c); many++ {
				isRefused(t, wave(ahead, c[:many]))
			}
			if got, e := Chunks(wave(ahead, c)); len(got) == 0 || got[len(got)-1].Size != len(own) || e != api.OK {
				t.Errorf("P20.1: a last chunk of %d bytes: %v, %d", len(own), got, e)
			}
		}
	}
}

// farSizes are beyond whatever may be there; some, taken as below 0 or wrapped round, would lead back to the chunk or ahead of it.
func farSizes() []int {
	far := []int{4077, 4096, 4097, 65535, 65536, 1 << 20, 1<<24 - 1, 1 << 24, 1<<31 - 2, 1<<31 - 1, 1 << 31, 1<<31 + 1, 1<<31 + 2}
	for i := 1; i <= 64; i++ {
		far = append(far, 1<<32-i, 1<<31-i, 1<<24+i, 1<<16+i)
	}
	return far
}

func TestSizesBeyondWhatIsThere(t *testing.T) {
	for _, ahead := range []string{"", chunk("none", "", 0), chunk("odd ", "abc", 'p')} {
		for there := range 40 {
			own := strings.Repeat("\x00", there)
			for size := there + 1; size < there+300; size++ {
				isRefused(t, wave(ahead, "far "+inFour(size)+own))
			}
			for _, size := range farSizes() {
				isRefused(t, wave(ahead, "far "+inFour(size)+own))
				isRefused(t, wave(ahead, "far "+inFour(size)+own, chunk("next", "", 0)))
			}
			// Right in its lowest byte, too much by each of the others.
			for _, high := range []int{1 << 8, 1 << 16, 1 << 24, 1 << 31} {
				isRefused(t, wave(ahead, "far "+inFour(there+high)+own))
			}
		}
	}
	full := strings.Repeat("x", 4076)
	for _, size := range farSizes() {
		isRefused(t, wave("far ", inFour(size), full))
	}
}

func TestAnOddChunkWithoutItsOneMoreByte(t *testing.T) {
	for size := 1; size < 4076; size += 2 {
		isRefused(t, wave("odd ", inFour(size), strings.Repeat("o", size)))
	}
	for _, ahead := range []string{chunk("none", "", 0), chunk("some", "ab", 0), chunk("odd ", "a", 0)} {
		isRefused(t, wave(ahead, "odd \x01\x00\x00\x00a"))
		isRefused(t, wave(ahead, "odd \x03\x00\x00\x00abc"))
		// Between others: the next one's first byte is taken for it.
		isRefused(t, wave("odd \x01\x00\x00\x00a", ahead))
		isRefused(t, wave("odd \x03\x00\x00\x00abc", ahead))
		// One more byte behind an even one begins a chunk.
		isRefused(t, wave("even\x02\x00\x00\x00ab\x00", ahead))
		isRefused(t, wave("none\x00\x00\x00\x00\x00", ahead))
	}
	// The whole is odd, as the last chunk is, and would have one more byte itself.
	isRefused(t, "RIFF\x0d\x00\x00\x00WAVEodd \x01\x00\x00\x00a")
	isRefused(t, "RIFF\x0d\x00\x00\x00WAVEodd \x01\x00\x00\x00a\x00")
	isRefused(t, "RIFF\x0f\x00\x00\x00WAVEodd \x03\x00\x00\x00abc\x00")
}

func TestTwoWrongThings(t *testing.T) {
	long := wave(slices.Repeat([]string{chunk("long", strings.Repeat("x", 101), 0)}, 65)...)
	for _, s := range []string{long, long + "x", long[:len(long)-1], with(long, 0, "riff"), with(long, 8, "wave"), with(long, 4, inFour(0)),
		with(long, 16, inFour(1<<32-1)), with(long, 12+64*110+4, inFour(102)), with(with(long, 0, "riff"), 8, "wave"),
		"riff\x00\x00\x00\x00wave", "WAVE\x04\x00\x00\x00RIFF", "RIFF\xff\xff\xff\xffWAVEdata\xff\xff\xff\xff",
		"RIFF\x10\x00\x00\x00WAVEdata\x05\x00\x00\x00abc"} {
		isRefused(t, s)
	}
	n := numbered(5)
	for range 20000 {
		s := wave(n.some(5)...)
		for range 1 + n.next(3) {
			s = with(s, n.next(len(s)), n.text(1))
		}
		isAsWords(t, s)
		isAsWords(t, s[:n.next(len(s)+1)])
		isAsWords(t, s+n.text(n.next(9)))
	}
}

// scribble writes to all of cs, its spare room too.
func scribble(cs []api.Chunk) {
	cs = cs[:cap(cs)]
	for i := range cs {
		cs[i] = it("gone", -1, -9)
	}
}

func TestWhatIsAnsweredIsTheCallersOwn(t *testing.T) {
	n := numbered(6)
	files := []string{wave(), wave(slices.Repeat([]string{"none\x00\x00\x00\x00"}, mostChunks)...)}
	for _, c := range told {
		files = append(files, c.s)
	}
	for range 200 {
		files = append(files, wave(n.some(9)...))
	}
	for _, s := range files {
		want, _ := byWords(s)
		one, _ := Chunks(s)
		two, _ := Chunks(s)
		scribble(one)
		scribble(append(one, api.Chunk{}))
		if three, e := Chunks(s); !slices.Equal(two, want) || !slices.Equal(three, want) || e != api.OK {
			t.Errorf("R4: of %q, an answer was written to: %v, %v, %d; want %v", s, two, three, e, want)
		}
	}
}

// A text over bytes that are turned behind the call: names are not kept as pieces of it.
func TestNamesShareNothingWithTheText(t *testing.T) {
	for _, c := range told {
		bs := []byte(c.s)
		got, e := Chunks(unsafe.String(&bs[0], len(bs)))
		if string(bs) != c.s {
			t.Errorf("R4: the text was changed: %q; want %q", bs, c.s)
		}
		for i := range bs {
			bs[i] ^= 0xff
		}
		if !slices.Equal(got, c.want) || e != api.OK {
			t.Errorf("R4: the text was written to: %v, %d; want %v", got, e, c.want)
		}
	}
}

func TestNothingIsKept(t *testing.T) {
	n := numbered(7)
	for range 20 {
		Chunks(wave(n.some(9)...))
		Chunks(wave(n.some(9)...) + "x")
		Chunks(wave(slices.Repeat([]string{"none\x00\x00\x00\x00"}, mostChunks+1)...))
		for _, c := range told {
			areTold(t, c.s, c.want)
		}
	}
}

func TestCallsAtOneTime(t *testing.T) {
	var group sync.WaitGroup
	for worker := range 8 {
		group.Go(func() {
			n := numbered(worker % 2)
			for range 200 {
				isAsWords(t, wave(n.some(9)...))
				isAsWords(t, wave(n.some(9)...)+"x")
				for _, c := range told {
					areTold(t, c.s, c.want)
				}
			}
		})
	}
	group.Wait()
}
