package wave

import (
	"encoding/binary"
	"fmt"
	"slices"
	"strings"
	"sync"
	"testing"
	"unsafe"

	"descant/api"
	"descant/riff"
)

const (
	// mostBytes is how many a file may have, mostChunks how many chunks.
	mostBytes  = 4096
	mostChunks = 64
)

// told are waves, worked out by hand; their files are Head, Data and Tail one behind the other.
var told = []api.Wave{
	// One channel of 8 bits: no frame, one, a few.
	is(1, 8, "RIFF\x24\x00\x00\x00WAVEfmt \x10\x00\x00\x00\x01\x00\x01\x00rateRATE\x01\x00\x08\x00data\x00\x00\x00\x00", "", ""),
	is(1, 8, "RIFF\x26\x00\x00\x00WAVEfmt \x10\x00\x00\x00\x01\x00\x01\x00rateRATE\x01\x00\x08\x00data\x01\x00\x00\x00", "a", "\x00"),
	is(1, 8, "RIFF\x26\x00\x00\x00WAVEfmt \x10\x00\x00\x00\x01\x00\x01\x00rateRATE\x01\x00\x08\x00data\x02\x00\x00\x00", "ab", ""),
	is(1, 8, "RIFF\x2a\x00\x00\x00WAVEfmt \x10\x00\x00\x00\x01\x00\x01\x00rateRATE\x01\x00\x08\x00data\x05\x00\x00\x00", "abcde", "\xff"),
	// Two of 8 bits.
	is(2, 8, "RIFF\x24\x00\x00\x00WAVEfmt \x10\x00\x00\x00\x01\x00\x02\x00rateRATE\x02\x00\x08\x00data\x00\x00\x00\x00", "", ""),
	is(2, 8, "RIFF\x26\x00\x00\x00WAVEfmt \x10\x00\x00\x00\x01\x00\x02\x00rateRATE\x02\x00\x08\x00data\x02\x00\x00\x00", "ab", ""),
	is(2, 8, "RIFF\x2a\x00\x00\x00WAVEfmt \x10\x00\x00\x00\x01\x00\x02\x00rateRATE\x02\x00\x08\x00data\x06\x00\x00\x00", "abcdef", ""),
	// One of 16 bits.
	is(1, 16, "RIFF\x24\x00\x00\x00WAVEfmt \x10\x00\x00\x00\x01\x00\x01\x00rateRATE\x02\x00\x10\x00data\x00\x00\x00\x00", "", ""),
	is(1, 16, "RIFF\x26\x00\x00\x00WAVEfmt \x10\x00\x00\x00\x01\x00\x01\x00rateRATE\x02\x00\x10\x00data\x02\x00\x00\x00", "ab", ""),
	is(1, 16, "RIFF\x2a\x00\x00\x00WAVEfmt \x10\x00\x00\x00\x01\x00\x01\x00rateRATE\x02\x00\x10\x00data\x06\x00\x00\x00", "abcdef", ""),
	// Two of 16 bits.
	is(2, 16, "RIFF\x24\x00\x00\x00WAVEfmt \x10\x00\x00\x00\x01\x00\x02\x00rateRATE\x04\x00\x10\x00data\x00\x00\x00\x00", "", ""),
	is(2, 16, "RIFF\x28\x00\x00\x00WAVEfmt \x10\x00\x00\x00\x01\x00\x02\x00rateRATE\x04\x00\x10\x00data\x04\x00\x00\x00", "abcd", ""),
	is(2, 16, "RIFF\x30\x00\x00\x00WAVEfmt \x10\x00\x00\x00\x01\x00\x02\x00rateRATE\x04\x00\x10\x00data\x0c\x00\x00\x00", "abcdefghijkl", ""),
	// Other chunks ahead, between, behind, all of it; of no bytes, even, odd.
	is(1, 8, "RIFF\x30\x00\x00\x00WAVELIST\x01\x00\x00\x00l\x00fmt \x10\x00\x00\x00\x01\x00\x01\x00rateRATE\x01\x00\x08\x00data\x02\x00\x00\x00", "ab", ""),
	is(1, 8, "RIFF\x32\x00\x00\x00WAVEfmt \x10\x00\x00\x00\x01\x00\x01\x00rateRATE\x01\x00\x08\x00fact\x03\x00\x00\x00fff\x07data\x02\x00\x00\x00", "ab", ""),
	is(1, 8, "RIFF\x30\x00\x00\x00WAVEfmt \x10\x00\x00\x00\x01\x00\x01\x00rateRATE\x01\x00\x08\x00data\x02\x00\x00\x00", "ab", "id3 \x01\x00\x00\x00i\xff"),
	is(1, 8, "RIFF\x30\x00\x00\x00WAVEfmt \x10\x00\x00\x00\x01\x00\x01\x00rateRATE\x01\x00\x08\x00data\x01\x00\x00\x00", "a", "\x00id3 \x02\x00\x00\x00ii"),
	is(2, 16, "RIFF\x4c\x00\x00\x00WAVELIST\x02\x00\x00\x00llnone\x00\x00\x00\x00fmt \x10\x00\x00\x00\x01\x00\x02\x00rateRATE\x04\x00\x10\x00"+
		"fact\x00\x00\x00\x00data\x04\x00\x00\x00", "abcd", "id3 \x02\x00\x00\x00ii"),
	is(1, 16, "RIFF\x46\x00\x00\x00WAVELIST\x00\x00\x00\x00fmt \x10\x00\x00\x00\x01\x00\x01\x00rateRATE\x02\x00\x10\x00"+
		"fact\x01\x00\x00\x00fxfact\x00\x00\x00\x00data\x00\x00\x00\x00", "", "id3 \x00\x00\x00\x00"),
	// Chunks whose names are nearly these two.
	is(1, 8, "RIFF\x58\x00\x00\x00WAVEFMT \x10\x00\x00\x00\x01\x00\x02\x00rateRATE\x04\x00\x10\x00"+
		"fmt \x10\x00\x00\x00\x01\x00\x01\x00rateRATE\x01\x00\x08\x00Data\x04\x00\x00\x00wxyzdata\x04\x00\x00\x00", "abcd", "dat \x04\x00\x00\x00wxyz"),
	// Bytes of another chunk, ahead and behind, and bytes of the samples, that look like these two.
	is(1, 8, "RIFF\x34\x00\x00\x00WAVELIST\x08\x00\x00\x00fmt data"+
		"fmt \x10\x00\x00\x00\x01\x00\x01\x00rateRATE\x01\x00\x08\x00data\x00\x00\x00\x00", "", ""),
	is(1, 8, "RIFF\x4c\x00\x00\x00WAVEfmt \x10\x00\x00\x00\x01\x00\x01\x00data\x00\x00\x00\x00\x01\x00\x08\x00"+
		"LIST\x0c\x00\x00\x00data\x04\x00\x00\x00wxyzdata\x08\x00\x00\x00", "fmt \x10\x00\x00\x00", "id3 \x04\x00\x00\x00data"),
	is(2, 16, "RIFF\x30\x00\x00\x00WAVEfmt \x10\x00\x00\x00\x01\x00\x02\x00fmt data\x04\x00\x10\x00data\x0c\x00\x00\x00", "data\x04\x00\x00\x00abcd", ""),
}

// kinds are the formats that may be.
var kinds = []api.Format{of(1, 8), of(2, 8), of(1, 16), of(2, 16)}

// of is a format by its channels and its bits.
func of(channels int, bits int) api.Format {
	return api.Format{Channels: channels, Bits: bits}
}

// is is a wave of such a format, by its three parts.
func is(channels int, bits int, head string, data string, tail string) api.Wave {
	return api.Wave{Format: of(channels, bits), Head: head, Data: data, Tail: tail}
}

// whole is the file of which w is told.
func whole(w api.Wave) string {
	return w.Head + w.Data + w.Tail
}

// shown is w in words, for what a test says of it.
func shown(w api.Wave) string {
	return fmt.Sprintf("%v, %.100q, %.100q, %.100q", w.Format, w.Head, w.Data, w.Tail)
}

// numbered is a row of numbers, the same each time.
type numbered uint64

func (n *numbered) next(below int) int {
	*n = *n*6364136223846793005 + 1442695040888963407
	return int(uint64(*n) >> 33 % uint64(below))
}

func (n *numbered) text(many int) string {
	bs := make([]byte, many)
	for i := range bs {
		bs[i] = byte(n.next(256))
	}
	return string(bs)
}

// others are a few chunks of any names but these two.
func (n *numbered) others(most int) string {
	var cs strings.Builder
	for range n.next(most + 1) {
		id := []string{"LIST", "fact", "FMT ", "Data", "RIFF", "WAVE", "fmt\x00", n.text(3) + "!"}[n.next(8)]
		cs.WriteString(chunk(id, n.text(n.next(12)), byte(n.next(256))))
	}
	return cs.String()
}

// wave is one of any format that may be, with other chunks all around.
func (n *numbered) wave() api.Wave {
	f := kinds[n.next(4)]
	data := n.text(n.next(9) * bytesOf(f))
	tail := ""
	if len(data)%2 == 1 {
		tail = n.text(1)
	}
	ahead := n.others(3) + chunk("fmt ", form(f, n.text(8)), 0) + n.others(3) + "data" + inFour(len(data))
	tail += n.others(3)
	return is(f.Channels, f.Bits, "RIFF"+inFour(4+len(ahead)+len(data)+len(tail))+"WAVE"+ahead, data, tail)
}

// bytesOf is how many bytes a frame has.
func bytesOf(f api.Format) int {
	return f.Channels * (f.Bits / 8)
}

// inTwo is x in two bytes, the lowest first; of x below 0 or too great the lowest ones.
func inTwo(x int) string {
	return string(binary.LittleEndian.AppendUint16(nil, uint16(x)))
}

// inFour is x in four bytes.
func inFour(x int) string {
	return string(binary.LittleEndian.AppendUint32(nil, uint32(x)))
}

// form is what a chunk of a format has, with such eight bytes that may be any.
func form(f api.Format, eight string) string {
	return inTwo(1) + inTwo(f.Channels) + eight + inTwo(bytesOf(f)) + inTwo(f.Bits)
}

// fmtOf is a chunk of a format.
func fmtOf(f api.Format) string {
	return chunk("fmt ", form(f, "rateRATE"), 0)
}

// chunk is one with such bytes, and with one more behind odd ones.
func chunk(id string, own string, more byte) string {
	s := id + inFour(len(own)) + own
	if len(own)%2 == 1 {
		s += string([]byte{more})
	}
	return s
}

// dataOf is a chunk of samples.
func dataOf(own string) string {
	return chunk("data", own, 0)
}

// file is one of chunks.
func file(cs ...string) string {
	all := strings.Join(cs, "")
	return "RIFF" + inFour(4+len(all)) + "WAVE" + all
}

// with is s with other bytes from at on.
func with(s string, at int, other string) string {
	return s[:at] + other + s[at+len(other):]
}

// byWords is what the chapter's words say: whether s is told, and what.
func byWords(s string) (api.Wave, bool) {
	cs, e := riff.Chunks(s)
	if e != api.OK {
		return api.Wave{}, false
	}
	fmts, datas := []int{}, []int{}
	for i, c := range cs {
		switch c.Id {
		case "fmt ":
			fmts = append(fmts, i)
		case "data":
			datas = append(datas, i)
		}
	}
	if len(fmts) != 1 || len(datas) != 1 || fmts[0] > datas[0] {
		return api.Wave{}, false
	}
	one, two := cs[fmts[0]], cs[datas[0]]
	for _, f := range kinds {
		own := s[one.At : one.At+one.Size]
		if len(own) == 16 && own == form(f, own[4:12]) && two.Size%bytesOf(f) == 0 {
			return is(f.Channels, f.Bits, s[:two.At], s[two.At:two.At+two.Size], s[two.At+two.Size:]), true
		}
	}
	return api.Wave{}, false
}

// areAsWords holds both calls to the chapter's words, whatever s is.
func areAsWords(t *testing.T, s string) {
	t.Helper()
	if want, may := byWords(s); may {
		isTold(t, s, want)
	} else {
		isRefused(t, s)
	}
}

// isTold holds Parse to what s is, and Build to s.
func isTold(t *testing.T, s string, want api.Wave) {
	t.Helper()
	if got, e := Parse(s); got != want || e != api.OK {
		t.Errorf("P21.1: Parse of %d bytes %.200q: %s, %d; want %s", len(s), s, shown(got), e, shown(want))
	}
	if got, e := Build(want); got != s || e != api.OK {
		t.Errorf("P21.1: Build of %s: %.200q, %d; want %.200q", shown(want), got, e, s)
	}
}

// isRefused asks Build too: of nothing that may not be parsed there is a wave.
func isRefused(t *testing.T, s string) {
	t.Helper()
	if got, e := Parse(s); got != (api.Wave{}) || e != api.ErrWaveForm {
		t.Errorf("P21.1: Parse of %d bytes %.200q: %s, %d; want ErrWaveForm", len(s), s, shown(got), e)
	}
	cut := min(44, len(s))
	for _, f := range kinds {
		isNotBuilt(t, is(f.Channels, f.Bits, s[:cut], s[cut:], ""))
	}
}

func isNotBuilt(t *testing.T, w api.Wave) {
	t.Helper()
	if got, e := Build(w); got != "" || e != api.ErrWaveForm {
		t.Errorf("P21.1: Build of %s: %.200q, %d; want ErrWaveForm", shown(w), got, e)
	}
}

func TestWavesWorkedOutByHand(t *testing.T) {
	for _, w := range told {
		isTold(t, whole(w), w)
	}
}

func TestWavesOfAllKinds(t *testing.T) {
	n := numbered(1)
	for range 5000 {
		w := n.wave()
		isTold(t, whole(w), w)
		areAsWords(t, whole(w))
	}
}

// The eight bytes between the channels and the frame's bytes may be any.
func TestTheEightBytesThatMayBeAny(t *testing.T) {
	for _, f := range kinds {
		for at := range 8 {
			for b := range 256 {
				s := file(chunk("fmt ", form(f, with("rateRATE", at, string([]byte{byte(b)}))), 0), dataOf("abcd"))
				isTold(t, s, is(f.Channels, f.Bits, s[:44], "abcd", ""))
			}
		}
		for _, eight := range []string{"\x00\x00\x00\x00\x00\x00\x00\x00", "\xff\xff\xff\xff\xff\xff\xff\xff", "\x44\xac\x00\x00\x10\xb1\x02\x00", "data\x00\x00\x00\x00"} {
			s := file(chunk("fmt ", form(f, eight), 0), dataOf("abcd"))
			isTold(t, s, is(f.Channels, f.Bits, s[:44], "abcd", ""))
		}
	}
}

// Of odd samples the one more byte is the first of Tail, whatever it is.
func TestTheByteBehindOddSamples(t *testing.T) {
	for b := range 256 {
		more := string([]byte{byte(b)})
		s := file(fmtOf(of(1, 8)), chunk("data", "abc", byte(b)))
		isTold(t, s, is(1, 8, s[:44], "abc", more))
		s = file(fmtOf(of(1, 8)), chunk("data", "a", byte(b)), "next\x02\x00\x00\x00xy")
		isTold(t, s, is(1, 8, s[:44], "a", more+"next\x02\x00\x00\x00xy"))
	}
}

// Samples of all lengths: whole frames are told, a last one that is cut is refused.
func TestEachLengthOfSamples(t *testing.T) {
	for _, f := range kinds {
		for many := range 60 {
			samples, tail := strings.Repeat("s", many), strings.Repeat("p", many%2)
			for _, behind := range []string{"", "next\x00\x00\x00\x00"} {
				s := file(fmtOf(f), chunk("data", samples, 'p'), behind)
				if many%bytesOf(f) == 0 {
					isTold(t, s, is(f.Channels, f.Bits, s[:44], samples, tail+behind))
				} else {
					isRefused(t, s)
				}
			}
		}
	}
}

// names are those that are nearly one of the two: of four bytes too, but another one or more.
func names(id string) []string {
	row := []string{strings.ToUpper(id), strings.ToTitle(id[:1]) + id[1:], id[:3] + "\x00", id[1:] + id[:1], "LIST", "RIFF", "WAVE", "\x00\x00\x00\x00"}
	for at := range 4 {
		for b := range 256 {
			row = append(row, with(id, at, string([]byte{byte(b)})))
		}
	}
	return slices.DeleteFunc(row, func(name string) bool { return name == id })
}

func TestNamesThatAreNearlyThese(t *testing.T) {
	for _, f := range kinds {
		for _, name := range names("fmt ") {
			near := chunk(name, form(f, "rateRATE"), 0)
			isRefused(t, file(near, dataOf("abcd")))
			s := file(near, fmtOf(f), near, dataOf("abcd"), near)
			isTold(t, s, is(f.Channels, f.Bits, s[:92], "abcd", near))
		}
		for _, name := range names("data") {
			near := chunk(name, "wxyz", 0)
			isRefused(t, file(fmtOf(f), near))
			s := file(near, fmtOf(f), near, dataOf("abcd"), near)
			isTold(t, s, is(f.Channels, f.Bits, s[:68], "abcd", near))
		}
	}
}

// Bytes within a chunk that would be one of the two if they stood by themselves are this chunk's own.
func TestBytesThatLookLikeAChunk(t *testing.T) {
	f := of(1, 8)
	for _, looks := range []string{fmtOf(f), fmtOf(of(2, 16)), dataOf("wxyz"), dataOf(""), fmtOf(f) + dataOf("wxyz"), dataOf("wxyz") + fmtOf(f), file(fmtOf(f), dataOf("wxyz"))} {
		s := file(chunk("LIST", looks, 0), fmtOf(f), dataOf("abcd"))
		isTold(t, s, is(1, 8, s[:len(s)-4], "abcd", ""))
		s = file(fmtOf(f), chunk("LIST", looks, 0), dataOf("abcd"))
		isTold(t, s, is(1, 8, s[:len(s)-4], "abcd", ""))
		s = file(fmtOf(f), dataOf("abcd"), chunk("LIST", looks, 0))
		isTold(t, s, is(1, 8, s[:44], "abcd", chunk("LIST", looks, 0)))
		s = file(fmtOf(f), dataOf(looks))
		isTold(t, s, is(1, 8, s[:44], looks, ""))
		// They are none, if the two themselves are missing.
		isRefused(t, file(chunk("LIST", looks, 0)))
		isRefused(t, file(chunk("LIST", looks, 0), dataOf("abcd")))
		isRefused(t, file(fmtOf(f), chunk("LIST", looks, 0)))
		isRefused(t, file(dataOf(looks)))
	}
}

// Each part as great as it may be.
func TestAsManyBytesAsMayBe(t *testing.T) {
	for _, f := range kinds {
		for many := 4040; many <= 4052; many += bytesOf(f) {
			s := file(fmtOf(f), chunk("data", strings.Repeat("s", many), 'p'))
			isTold(t, s, is(f.Channels, f.Bits, s[:44], strings.Repeat("s", many), strings.Repeat("p", many%2)))
		}
		full := file(fmtOf(f), dataOf(strings.Repeat("s", 4052)))
		head := file(chunk("LIST", strings.Repeat("l", 4044), 0), fmtOf(f), dataOf(""))
		tail := file(fmtOf(f), dataOf(""), chunk("LIST", strings.Repeat("l", 4044), 0))
		if len(full) != mostBytes || len(head) != mostBytes || len(tail) != mostBytes {
			t.Fatalf("%d, %d, %d bytes", len(full), len(head), len(tail))
		}
		isTold(t, full, is(f.Channels, f.Bits, full[:44], full[44:], ""))
		isTold(t, head, is(f.Channels, f.Bits, head, "", ""))
		isTold(t, tail, is(f.Channels, f.Bits, tail[:44], "", tail[44:]))
	}
}

func TestAsManyChunksAsMayBe(t *testing.T) {
	other := chunk("many", "m", 1)
	for ahead := 0; ahead <= mostChunks-2; ahead += 2 {
		for between := 0; ahead+between <= mostChunks-2; between += 2 {
			behind := mostChunks - 2 - ahead - between
			rows := []string{strings.Repeat(other, ahead), fmtOf(of(2, 8)), strings.Repeat(other, between), dataOf("abcd"), strings.Repeat(other, behind)}
			s := file(rows...)
			isTold(t, s, is(2, 8, s[:12+10*(ahead+between)+32], "abcd", strings.Repeat(other, behind)))
			isRefused(t, file(append(rows, other)...))
			isRefused(t, file(append([]string{other}, rows...)...))
		}
	}
}

// Whatever layer 20 refuses.
func TestTextsThatAreNoFiles(t *testing.T) {
	isRefused(t, "")
	n := numbered(2)
	for _, w := range told {
		s := whole(w)
		for many := range len(s) {
			isRefused(t, s[:many])
		}
		for b := range 256 {
			isRefused(t, s+string([]byte{byte(b)}))
			isRefused(t, string([]byte{byte(b)})+s)
		}
		for at := range 12 {
			isRefused(t, with(s, at, string([]byte{s[at] ^ byte(1+n.next(255))})))
		}
		isRefused(t, s+s)
		isRefused(t, s[12:])
		isRefused(t, n.text(len(s)))
	}
	for many := 4053; many < 4300; many++ {
		isRefused(t, file(fmtOf(of(1, 8)), dataOf(strings.Repeat("s", many))))
	}
	isRefused(t, file(fmtOf(of(1, 8)), dataOf(strings.Repeat("s", 1<<20))))
	isRefused(t, file(fmtOf(of(1, 8)), "data\x03\x00\x00\x00abc"))
	isRefused(t, file(fmtOf(of(1, 8)), "data\x05\x00\x00\x00abcd"))
}

// None or two of either, in each row, and the one that is behind ahead.
func TestOtherRowsOfChunks(t *testing.T) {
	for _, f := range kinds {
		a, b, other := fmtOf(f), dataOf("abcd"), chunk("LIST", "abc", 0)
		for _, row := range [][]string{{}, {other}, {a}, {b}, {a, other}, {other, a}, {b, other}, {other, b}, {b, a}, {b, other, a}, {other, b, other, a, other},
			{a, a}, {b, b}, {a, a, b}, {a, b, a}, {b, a, a}, {a, b, b}, {b, a, b}, {b, b, a}, {a, a, b, b}, {a, b, a, b}, {a, b, b, a}, {b, a, a, b}, {b, a, b, a},
			{b, b, a, a}, {a, other, a, other, b}, {a, other, b, other, b}, {a, a, a, b}, {a, b, b, b}} {
			isRefused(t, file(row...))
		}
	}
}

// A second one is one too many even where it could not be the first.
func TestASecondOneOfAnotherKind(t *testing.T) {
	for _, f := range kinds {
		a, b := fmtOf(f), dataOf("abcd")
		for _, second := range []string{chunk("fmt ", "", 0), chunk("fmt ", form(f, "rateRATE")+"ab", 0), chunk("fmt ", "short", 0), dataOf(""), dataOf("abc"), dataOf("abcdefgh"),
			fmtOf(of(3, 8)), fmtOf(kinds[0]), fmtOf(kinds[3])} {
			isRefused(t, file(second, a, b))
			isRefused(t, file(a, second, b))
			isRefused(t, file(a, b, second))
		}
	}
}

func TestOtherLengthsOfAFormat(t *testing.T) {
	long := strings.Repeat("\x00", 300)
	for _, f := range kinds {
		own := form(f, "rateRATE")
		for many := range 300 {
			if many == 16 {
				continue
			}
			isRefused(t, file(chunk("fmt ", (own + long)[:many], 0), dataOf("abcd")))
			isRefused(t, file(chunk("fmt ", (own + own + long)[:many], 0), dataOf("abcd")))
			isRefused(t, file(chunk("fmt ", (long[:2] + own + long)[:many], 0), dataOf("abcd")))
		}
	}
}

// Each number of a format's chunk, whatever its two bytes are, all else being right.
func TestOtherNumbersOfAFormat(t *testing.T) {
	for _, f := range kinds {
		own := form(f, "rateRATE")
		for _, at := range []int{0, 2, 12, 14} {
			for x := range 1 << 16 {
				turned := with(own, at, inTwo(x))
				s := file(chunk("fmt ", turned, 0), dataOf("abcd"))
				got, e := Parse(s)
				if turned == own {
					if got != is(f.Channels, f.Bits, s[:44], "abcd", "") || e != api.OK {
						t.Errorf("P21.1: of %v: %s, %d", f, shown(got), e)
					}
				} else if got != (api.Wave{}) || e != api.ErrWaveForm {
					t.Errorf("P21.1: of %v, the number at %d is %d: %s, %d; want ErrWaveForm", f, at, x, shown(got), e)
				}
			}
		}
	}
}

// Formats that may not be, though their frames have just as many bytes as they tell.
func TestFormatsThatMayNotBe(t *testing.T) {
	bits := []int{0, 1, 4, 7, 8, 9, 12, 15, 16, 17, 20, 24, 32, 64, 128, 255, 256, 256 + 8, 256 + 16, 2048, 4096, 65528}
	for channels := range 600 {
		for _, bit := range bits {
			f := of(channels, bit)
			for _, frame := range []int{channels * bit / 8, (channels*bit + 7) / 8, channels * (bit / 8), channels * ((bit + 7) / 8)} {
				s := file(chunk("fmt ", inTwo(1)+inTwo(channels)+"rateRATE"+inTwo(frame)+inTwo(bit), 0), dataOf("abcd"))
				if slices.Contains(kinds, f) {
					isTold(t, s, is(channels, bit, s[:44], "abcd", ""))
				} else if got, e := Parse(s); got != (api.Wave{}) || e != api.ErrWaveForm {
					t.Errorf("P21.1: of %v: %s, %d; want ErrWaveForm", f, shown(got), e)
				}
			}
		}
	}
}

// Each byte of a file turned to each other one.
func TestEachByteTurned(t *testing.T) {
	for _, w := range told {
		s := whole(w)
		for at := range len(s) {
			for b := range 256 {
				areAsWords(t, with(s, at, string([]byte{byte(b)})))
			}
		}
	}
}

func TestTwoWrongThings(t *testing.T) {
	n := numbered(3)
	for range 30000 {
		s := whole(n.wave())
		for range 1 + n.next(3) {
			s = with(s, n.next(len(s)), n.text(1))
		}
		areAsWords(t, s)
		areAsWords(t, s[:n.next(len(s)+1)])
		areAsWords(t, s+n.text(n.next(9)))
	}
	bad := chunk("fmt ", inTwo(2)+inTwo(3)+"rateRATE"+inTwo(9)+inTwo(24), 0)
	for _, s := range []string{file(dataOf("abc"), bad), file(bad, bad), file(dataOf("a"), dataOf("a")), file(bad, dataOf("abcde")), "RIFF" + file(bad)} {
		isRefused(t, s)
	}
}

// Of all the ways to cut a file in three, just the one that Parse tells is built.
func TestOtherCutsAreNotBuilt(t *testing.T) {
	for _, w := range told {
		s := whole(w)
		for one := range len(s) + 1 {
			for two := one; two <= len(s); two++ {
				cut := w
				cut.Head, cut.Data, cut.Tail = s[:one], s[one:two], s[two:]
				if cut == w {
					isTold(t, s, w)
				} else if got, e := Build(cut); got != "" || e != api.ErrWaveForm {
					t.Errorf("P21.1: Build of %s: %q, %d; want ErrWaveForm", shown(cut), got, e)
				}
			}
		}
	}
}

func TestOtherFormatsAreNotBuilt(t *testing.T) {
	far := 1 << 62
	formats := append(slices.Clone(kinds), of(0, 0), of(0, 8), of(1, 0), of(8, 1), of(16, 1), of(3, 8), of(1, 24), of(-1, 8), of(1, -8), of(257, 8), of(1, 264),
		of(1<<32+1, 8), of(1, 1<<32+8), of(far, far), of(-far, -far), of(far, 8))
	for _, w := range told {
		for _, f := range formats {
			other := w
			other.Format = f
			if other != w {
				isNotBuilt(t, other)
			}
		}
	}
}

func TestOtherPartsAreNotBuilt(t *testing.T) {
	n := numbered(4)
	for _, w := range told {
		head, data, tail := w.Head, w.Data, w.Tail
		f := w.Format
		for _, p := range [][3]string{{"", "", ""}, {"", data, tail + "x"}, {"", head + data, tail}, {head + "x", data, tail}, {"x" + head, data, tail}, {head[1:], data, tail},
			{head[:len(head)-1], data, tail}, {head, data + "x", tail}, {head, "x" + data, tail}, {head, data, tail + "x"}, {head, data, "x" + tail}, {head + head, data, tail},
			{data, head, tail}, {tail, data, head}, {head, data + data + "a", tail}, {head, data, tail + tail + "a"}, {head[12:], data, tail}, {head[:12], data, tail},
			{"", "", tail}, {"", data, ""}} {
			isNotBuilt(t, is(f.Channels, f.Bits, p[0], p[1], p[2]))
		}
		for _, part := range []string{data, tail} {
			if part != "" {
				isNotBuilt(t, is(f.Channels, f.Bits, head, strings.TrimSuffix(data, part), strings.TrimSuffix(tail, part)))
			}
		}
		for range 50 {
			isNotBuilt(t, is(f.Channels, f.Bits, head, data+n.text(bytesOf(f)), tail))
			isNotBuilt(t, is(f.Channels, f.Bits, n.text(len(head)), data, tail))
		}
	}
}

// A wave of nothing is what is told beside the error, and so not built.
func TestNothingIsNotBuilt(t *testing.T) {
	isNotBuilt(t, api.Wave{})
	for _, part := range []string{"x", "RIFF", "RIFF\x04\x00\x00\x00WAVE", fmtOf(of(1, 8)), file(fmtOf(of(1, 8)), dataOf(""))} {
		isNotBuilt(t, api.Wave{Head: part})
		isNotBuilt(t, api.Wave{Data: part})
		isNotBuilt(t, api.Wave{Tail: part})
	}
}

// A head that tells of other samples, of as many bytes and of one more or fewer.
func TestBuildHoldsToTheHead(t *testing.T) {
	w := is(2, 16, file(fmtOf(of(2, 16)), dataOf("abcdefgh"))[:44], "abcdefgh", "")
	isTold(t, whole(w), w)
	other := w
	other.Data = "ABCDEFGH"
	isTold(t, w.Head+"ABCDEFGH", other)
	for many := range 40 {
		if many != 8 {
			other.Data = strings.Repeat("x", many)
			isNotBuilt(t, other)
			other.Head = with(w.Head, 40, inFour(many))
			isNotBuilt(t, other)
			other.Head = w.Head
		}
	}
}

// Parts of great length are refused, and no text is made of them.
func TestPartsOfGreatLength(t *testing.T) {
	great := strings.Repeat("x", 1<<24)
	w := told[3]
	for _, many := range []int{4096 - len(whole(w)) + 1, 4052, 4053, 4096, 4097, 65535, 65536, 1 << 20, 1 << 24} {
		for _, other := range []api.Wave{is(1, 8, w.Head+great[:many], w.Data, w.Tail), is(1, 8, w.Head, w.Data+great[:many], w.Tail), is(1, 8, w.Head, w.Data, w.Tail+great[:many]),
			is(1, 8, great[:many], great[:many], great[:many]), is(1, 8, great[:many], "", ""), is(1, 8, "", great[:many], ""), is(1, 8, "", "", great[:many])} {
			isNotBuilt(t, other)
		}
	}
	all := is(1, 8, great, great, great)
	if made := testing.AllocsPerRun(10, func() { Build(all) }); made != 0 {
		t.Errorf("P21.1: of %d bytes %v texts are made", 3*len(great), made)
	}
}

// over is a text over bs, which can then be turned behind a call.
func over(bs []byte) string {
	return unsafe.String(unsafe.SliceData(bs), len(bs))
}

func turn(bs []byte) {
	for i := range bs {
		bs[i] ^= 0xff
	}
}

func TestWhatIsToldSharesNothingWithTheText(t *testing.T) {
	for _, w := range told {
		bs := []byte(whole(w))
		got, e := Parse(over(bs))
		if string(bs) != whole(w) {
			t.Errorf("R4: the text was changed: %q; want %q", bs, whole(w))
		}
		turn(bs)
		if got != w || e != api.OK {
			t.Errorf("R4: the text was written to: %s, %d; want %s", shown(got), e, shown(w))
		}
	}
}

func TestWhatIsBuiltSharesNothingWithTheParts(t *testing.T) {
	for _, w := range told {
		head, data, tail := []byte(w.Head), []byte(w.Data), []byte(w.Tail)
		got, e := Build(is(w.Format.Channels, w.Format.Bits, over(head), over(data), over(tail)))
		if string(head) != w.Head || string(data) != w.Data || string(tail) != w.Tail {
			t.Errorf("R4: the parts were changed: %q, %q, %q; want %s", head, data, tail, shown(w))
		}
		turn(head)
		turn(data)
		turn(tail)
		if got != whole(w) || e != api.OK {
			t.Errorf("R4: the parts were written to: %q, %d; want %q", got, e, whole(w))
		}
	}
}

// share asks whether two texts have a byte of memory in common.
func share(a string, b string) bool {
	if a == "" || b == "" {
		return false
	}
	one, two := uintptr(unsafe.Pointer(unsafe.StringData(a))), uintptr(unsafe.Pointer(unsafe.StringData(b)))
	return one < two+uintptr(len(b)) && two < one+uintptr(len(a))
}

func TestAnswersShareNothing(t *testing.T) {
	n := numbered(5)
	for range 300 {
		w := n.wave()
		s := whole(w)
		one, _ := Parse(s)
		two, _ := Parse(s)
		built, _ := Build(one)
		again, _ := Build(one)
		texts := []string{s, one.Head, one.Data, one.Tail, two.Head, two.Data, two.Tail, built, again}
		for i, a := range texts {
			for _, b := range texts[i+1:] {
				if share(a, b) {
					t.Errorf("R4: %q and %q share memory", a, b)
				}
			}
		}
	}
}

func TestNothingIsKept(t *testing.T) {
	n := numbered(6)
	for range 20 {
		w := n.wave()
		Parse(whole(w))
		Parse(whole(w) + "x")
		Build(w)
		Build(is(1, 8, w.Head, w.Data+"x", w.Tail))
		for _, w := range told {
			isTold(t, whole(w), w)
		}
	}
}

func TestCallsAtOneTime(t *testing.T) {
	var group sync.WaitGroup
	for worker := range 8 {
		group.Go(func() {
			n := numbered(worker % 2)
			for range 200 {
				w := n.wave()
				isTold(t, whole(w), w)
				areAsWords(t, whole(w)+"x")
				for _, w := range told {
					isTold(t, whole(w), w)
				}
			}
		})
	}
	group.Wait()
}
