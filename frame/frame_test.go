package frame

import (
	"testing"

	"descant/api"
)

func TestBytes(t *testing.T) {
	for _, c := range []struct{ channels, bits, want int }{{1, 8, 1}, {2, 8, 2}, {1, 16, 2}, {2, 16, 4}} {
		if got := Bytes(api.Format{Channels: c.channels, Bits: c.bits}); got != c.want {
			t.Errorf("P19.1, P21.1: a frame of %d channels of %d bits: %d bytes; want %d", c.channels, c.bits, got, c.want)
		}
	}
}
