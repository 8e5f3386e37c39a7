package round_test

import (
	"testing"

	"barrage/round"
)

// Rounded down is to the greatest integer that is not above, rounded up to the least one that is not below.
func TestRoundings(t *testing.T) {
	for by := 1; by <= 7; by++ {
		for n := -30; n <= 30; n++ {
			if d := round.Down(n, by); d*by > n || (d+1)*by <= n {
				t.Errorf("Down(%d, %d) = %d", n, by, d)
			}
			if u := round.Up(n, by); u*by < n || (u-1)*by >= n {
				t.Errorf("Up(%d, %d) = %d", n, by, u)
			}
		}
	}
}
