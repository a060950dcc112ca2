package index

import (
	"maps"
	"testing"

	"fedchat/api"
)

func TestOf(t *testing.T) {
	if got := Of([]api.Event{{Id: 7}, {Id: -1}, {Id: 7}}); !maps.Equal(got, map[int]int{7: 0, -1: 1}) {
		t.Error(got)
	}
	if len(Of(nil)) != 0 {
		t.Error("nothing")
	}
}
