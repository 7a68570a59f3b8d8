package probe

import (
	"os"
	"runtime/debug"
	"testing"
)

// TestMain: each run takes a whole memory, and is soon forgotten; most of the time would go to clearing up behind them.
func TestMain(m *testing.M) {
	debug.SetGCPercent(1600)
	os.Exit(m.Run())
}
