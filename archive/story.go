package archive

import (
	"fedchat/api"
	"fedchat/event"
	"fedchat/num"
	"fedchat/relate"
	"fedchat/sight"
)

// Story returns what a user can read in a room.
func Story(r api.Room, user string) string {
	seen := sight.Open(r)
	shown := seen.Events(seen.Shown(user))
	story := ""
	for _, e := range shown {
		if text := tell(shown, e); text != "" {
			story += text + "\n"
		}
	}
	return story
}

// tell returns the line for an event, or the empty text.
func tell(shown []api.Event, e api.Event) string {
	switch e.Kind {
	case api.KMessage:
		return tellMessage(shown, e)
	case api.KMember:
		return tellMember(e)
	case api.KName:
		return e.Sender + " named the room " + Quote(e.Content.Text)
	}
	return ""
}

func tellMessage(shown []api.Event, e api.Event) string {
	if !event.Whole(e) {
		return e.Sender + " (redacted)"
	}
	text, _ := relate.Show(shown, e.Id)
	told := e.Sender + ": " + Quote(text)
	sum := relate.Sum(shown, e.Id)
	for _, reaction := range sum.Reactions {
		told += " [" + Quote(reaction.Text) + " " + num.Text(reaction.N) + "]"
	}
	if sum.Thread != 0 {
		told += " (" + num.Text(sum.Thread) + " in thread)"
	}
	return told
}

func tellMember(e api.Event) string {
	switch e.Content.N {
	case api.Join:
		return e.Key + " joined"
	case api.Leave:
		if e.Key == e.Sender {
			return e.Key + " left"
		}
		return e.Key + " was removed by " + e.Sender
	case api.Invite:
		return e.Key + " was invited by " + e.Sender
	case api.Knock:
		return e.Key + " knocks"
	case api.Ban:
		return e.Key + " was banned by " + e.Sender
	}
	return ""
}
