package tests

import (
	"fmt"
	"math"
	"math/rand"
	"testing"
)

// extremes are numbers at and around the limits of int64 and of the document.
var extremes = []int64{
	math.MinInt64, math.MinInt64 + 1, -1000000000001, -1000000000000, -1000001, -1000000, -300001, -300000, -90001, -90000, -2, -1,
	0, 1, 2, 3, 11, 12, 63, 64, 65, 9999, 10000, 65535, 65536, 90000, 180000, 180001, 300000, 300001, 1000000, 1000001,
	1000000000000, 1000000000001, 999999999999999999, 1000000000000000000, math.MaxInt64 - 1, math.MaxInt64,
}

// numbers returns numbers of all magnitudes, the same ones at every call.
func numbers(count int) []int64 {
	source := rand.New(rand.NewSource(1))
	list := make([]int64, count)
	for i := range list {
		list[i] = source.Int63() >> source.Intn(63)
	}
	return list
}

// expect compares the printed form of a result.
func expect(t *testing.T, what string, got any, want any) {
	t.Helper()
	if g, w := fmt.Sprint(got), fmt.Sprint(want); g != w {
		t.Errorf("%s: got %s, want %s", what, g, w)
	}
}

// zeros returns a list of zeros.
func zeros(count int) []int64 { return make([]int64, count) }
