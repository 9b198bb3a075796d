"""The desk: nets kept by labels, told and asked by rows of words."""

from arrowfind.counting import how_many, net_at, number_in
from arrowfind.errors import NoLabel, NoRow, NoSuch
from arrowfind.nets import is_word
from arrowfind.partings import are_parted
from arrowfind.pictures import picture_of
from arrowfind.sameness import say_same
from arrowfind.texts import arrows_shown, read_net, show_net, show_picture
from arrowfind.turning import chain_to, net_turned

# How many words each kind of row has; the endless ones may have more.
WORDS = {
    "net": 3, "drop": 2, "turn": 4, "pick": 3,
    "show": 2, "picture": 2, "count": 2, "number": 2,
    "parted": 4, "same": 3, "chain": 3,
}
ENDLESS = ("net", "parted")
OF_TWO_LABELS = ("same", "chain")
THAT_SET_A_NET = ("net", "turn", "pick")
FIGURES = "0123456789"
MOST_FIGURES = 9


class Desk:
    def __init__(self):
        self.nets = {}

    def say(self, row):
        words = row.split(" ")
        refuse_wrong_row(words)
        refuse_wrong_labels(words, self.nets)
        if words[0] == "drop":
            self.nets.pop(words[1])
            return "ok"
        if words[0] in THAT_SET_A_NET:
            self.nets[words[1]] = net_to_set(words, self.nets)
            return "ok"
        return answer_to(words, self.nets)


def refuse_wrong_row(words):
    kind = words[0]
    if kind not in WORDS:
        raise NoRow(f"no row begins with {kind!r}")
    if len(words) < WORDS[kind] or len(words) > WORDS[kind] and kind not in ENDLESS:
        raise NoRow(f"a row {kind!r} hasn't so many words")


# Nets stand by words alone, so a label by which one stands needn't be looked at any more.
def refuse_wrong_labels(words, nets):
    labels = words[1:3] if words[0] in OF_TWO_LABELS else words[1:2]
    for label in labels:
        if label not in nets and not (words[0] == "net" and is_word(label)):
            raise NoLabel(f"no net stands by {label!r}")


def net_to_set(words, nets):
    if words[0] == "net":
        return read_net(" ".join(words[2:]))
    net = nets[words[1]]
    if words[0] == "turn":
        return net_turned(net, words[2], words[3])
    return net_at(picture_of(net), number_read(words[2]))


def answer_to(words, nets):
    kind = words[0]
    net = nets[words[1]]
    if kind == "show":
        return show_net(net)
    if kind == "picture":
        return show_picture(picture_of(net))
    if kind == "count":
        return str(how_many(picture_of(net)))
    if kind == "number":
        return str(number_in(picture_of(net), net))
    if kind == "parted":
        return yes_or_no(are_parted(net, words[2], words[3], words[4:]))
    if kind == "same":
        return yes_or_no(say_same(net, nets[words[2]]))
    return chain_shown(net, nets[words[2]])


def number_read(text):
    if not 1 <= len(text) <= MOST_FIGURES or not all([sign in FIGURES for sign in text]):
        raise NoSuch(f"{text!r} isn't one to {MOST_FIGURES} figures")
    if len(text) > 1 and text[0] == "0":
        raise NoSuch(f"{text!r} begins with 0")
    return int(text)


def yes_or_no(truth):
    return "yes" if truth else "no"


def chain_shown(first, second):
    if not say_same(first, second):
        return "-"
    return " ".join(arrows_shown(chain_to(first, second)))
